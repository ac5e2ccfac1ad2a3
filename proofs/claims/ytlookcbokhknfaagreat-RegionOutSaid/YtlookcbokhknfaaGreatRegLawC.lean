/-
  The law RegionOut, under what packages region and hull owe.
-/
import Derived.Test.YtlookcbokhknfaaGreatRegU
import Derived.Test.YtlookcbokhknfaaGreatRegLawA
namespace Go.Proofs.YtlookcbokhknfaaGreat
open Go.RowKit Go.Shelf Hl
namespace Rg
open Ct (Hf WF ov)
set_option maxRecDepth 100000 in
set_option maxHeartbeats 4000000 in
theorem out_true (K : Code) (H : Hl.Code) (L : Rgn) (lo hi x : Pt) (v : Value) (w : World) (hs : Rl w v L) : Calls Tryz.prog 8 #[v, .agg #[.int .i64 lo.1, .int .i64 lo.2], .agg #[.int .i64 hi.1, .int .i64 hi.2], .agg #[.int .i64 x.1, .int .i64 x.2]] w fun e w' => e = .returned (.bool true) ∧ Grew w w' := by
  obtain ⟨va, vc, rfl⟩ := hs.shape
  have R := Lib.hid hs
  clear hs
  have BK00 := Lib.hid ((Blk.new (w) #[.int .i64 lo.1, .int .i64 lo.2] 27).grown (((Grew.refl _).alloc #[.int .i64 hi.1, .int .i64 hi.2] 27).alloc #[.int .i64 x.1, .int .i64 x.2] 27))
  have BK10 := Lib.hid ((Blk.new ((w.alloc (.cells #[.int .i64 lo.1, .int .i64 lo.2] 27))) #[.int .i64 hi.1, .int .i64 hi.2] 27).grown ((Grew.refl _).alloc #[.int .i64 x.1, .int .i64 x.2] 27))
  simp only [World.size_alloc] at BK10
  have BK20 := Lib.hid ((Blk.new (((w.alloc (.cells #[.int .i64 lo.1, .int .i64 lo.2] 27)).alloc (.cells #[.int .i64 hi.1, .int .i64 hi.2] 27))) #[.int .i64 x.1, .int .i64 x.2] 27))
  simp only [World.size_alloc] at BK20
  have GW0 : Grew w (((w.alloc (.cells #[.int .i64 lo.1, .int .i64 lo.2] 27)).alloc (.cells #[.int .i64 hi.1, .int .i64 hi.2] 27)).alloc (.cells #[.int .i64 x.1, .int .i64 x.2] 27)) := (by (repeat' (first | (with_reducible exact Grew.refl _) | (with_reducible assumption) | (with_reducible refine Grew.alloc ?_ _ _) | (with_reducible refine Grew.drew ?_) | (with_reducible refine Grew.drewN ?_ _) | (with_reducible refine Grew.setCell ?_ ?_ _) | go_size)))
  have G0 : Grew (((w.alloc (.cells #[.int .i64 lo.1, .int .i64 lo.2] 27)).alloc (.cells #[.int .i64 hi.1, .int .i64 hi.2] 27)).alloc (.cells #[.int .i64 x.1, .int .i64 x.2] 27)) (((w.alloc (.cells #[.int .i64 lo.1, .int .i64 lo.2] 27)).alloc (.cells #[.int .i64 hi.1, .int .i64 hi.2] 27)).alloc (.cells #[.int .i64 x.1, .int .i64 x.2] 27)) := Grew.refl _
  have R0 := Lib.hid (R.out.grown (w' := (((w.alloc (.cells #[.int .i64 lo.1, .int .i64 lo.2] 27)).alloc (.cells #[.int .i64 hi.1, .int .i64 hi.2] 27)).alloc (.cells #[.int .i64 x.1, .int .i64 x.2] 27))) (by (repeat' (first | (with_reducible exact Grew.refl _) | (with_reducible assumption) | (with_reducible refine Grew.alloc ?_ _ _) | (with_reducible refine Grew.drew ?_) | (with_reducible refine Grew.drewN ?_ _) | (with_reducible refine Grew.setCell ?_ ?_ _) | go_size))))
  go_enter Tryz.func8, Tryz.ntmps8
  go_wp2_with fail
  refine (head_true K _).mono ?_
  rintro e w1 ⟨rfl, g1⟩
  have D1 : Grew (((w.alloc (.cells #[.int .i64 lo.1, .int .i64 lo.2] 27)).alloc (.cells #[.int .i64 hi.1, .int .i64 hi.2] 27)).alloc (.cells #[.int .i64 x.1, .int .i64 x.2] 27)) w1 := Grew.trans (by (repeat' (first | (with_reducible exact Grew.refl _) | (with_reducible assumption) | (with_reducible refine Grew.alloc ?_ _ _) | (with_reducible refine Grew.drew ?_) | (with_reducible refine Grew.drewN ?_ _) | (with_reducible refine Grew.setCell ?_ ?_ _) | go_size))) g1
  have G1 : Grew (((w.alloc (.cells #[.int .i64 lo.1, .int .i64 lo.2] 27)).alloc (.cells #[.int .i64 hi.1, .int .i64 hi.2] 27)).alloc (.cells #[.int .i64 x.1, .int .i64 x.2] 27)) w1 := Grew.trans G0 D1
  have R1 := Lib.hid (R0.out.grown D1)
  have BK01 := Lib.hid (BK00.out.grown D1)
  have BK11 := Lib.hid (BK10.out.grown D1)
  have BK21 := Lib.hid (BK20.out.grown D1)
  clear R0 BK00 BK10 BK20
  clear g1 D1 G0
  obtain ⟨x00, x01⟩ := blk_two BK01.out
  obtain ⟨x10, x11⟩ := blk_two BK11.out
  obtain ⟨x20, x21⟩ := blk_two BK21.out
  go_wp2_with fail
  refine (usable_c L [] _ _ _ R1.out (Rl.nil _ none 0)).mono ?_
  rintro e w2 ⟨r2, rfl, h2, g2⟩
  have D2 : Grew w1 w2 := Grew.trans (by (repeat' (first | (with_reducible exact Grew.refl _) | (with_reducible assumption) | (with_reducible refine Grew.alloc ?_ _ _) | (with_reducible refine Grew.drew ?_) | (with_reducible refine Grew.drewN ?_ _) | (with_reducible refine Grew.setCell ?_ ?_ _) | go_size))) g2
  have G2 : Grew (((w.alloc (.cells #[.int .i64 lo.1, .int .i64 lo.2] 27)).alloc (.cells #[.int .i64 hi.1, .int .i64 hi.2] 27)).alloc (.cells #[.int .i64 x.1, .int .i64 x.2] 27)) w2 := Grew.trans G1 D2
  have R2 := Lib.hid (R1.out.grown D2)
  have BK02 := Lib.hid (BK01.out.grown D2)
  have BK12 := Lib.hid (BK11.out.grown D2)
  have BK22 := Lib.hid (BK21.out.grown D2)
  clear R1 BK01 BK11 BK21
  clear g2 D2 G1
  clear x00 x01 x10 x11 x20 x21
  obtain ⟨x00, x01⟩ := blk_two BK02.out
  obtain ⟨x10, x11⟩ := blk_two BK12.out
  obtain ⟨x20, x21⟩ := blk_two BK22.out
  cases r2
  · clear h2
    go_wp2_with fail
    go_ret
    exact ⟨rfl, GW0.trans G2⟩
  have VL := Lib.hid ((h2 rfl).1)
  clear h2
  go_wp2_with fail
  refine (rectangle_r lo hi _).mono ?_
  rintro e w3 ⟨r3, rfl, h3, g3⟩
  have D3 : Grew w2 w3 := Grew.trans (by (repeat' (first | (with_reducible exact Grew.refl _) | (with_reducible assumption) | (with_reducible refine Grew.alloc ?_ _ _) | (with_reducible refine Grew.drew ?_) | (with_reducible refine Grew.drewN ?_ _) | (with_reducible refine Grew.setCell ?_ ?_ _) | go_size))) g3
  have G3 : Grew (((w.alloc (.cells #[.int .i64 lo.1, .int .i64 lo.2] 27)).alloc (.cells #[.int .i64 hi.1, .int .i64 hi.2] 27)).alloc (.cells #[.int .i64 x.1, .int .i64 x.2] 27)) w3 := Grew.trans G2 D3
  have R3 := Lib.hid (R2.out.grown D3)
  have BK03 := Lib.hid (BK02.out.grown D3)
  have BK13 := Lib.hid (BK12.out.grown D3)
  have BK23 := Lib.hid (BK22.out.grown D3)
  clear R2 BK02 BK12 BK22
  clear g3 D3 G2
  clear x00 x01 x10 x11 x20 x21
  obtain ⟨x00, x01⟩ := blk_two BK03.out
  obtain ⟨x10, x11⟩ := blk_two BK13.out
  obtain ⟨x20, x21⟩ := blk_two BK23.out
  cases r3
  · clear h3
    go_wp2_with fail
    go_ret
    exact ⟨rfl, GW0.trans G3⟩
  have RC := Lib.hid (h3.1 rfl)
  clear h3
  go_wp2_with fail
  refine (place_t x _).mono ?_
  rintro e w4 ⟨r4, rfl, h4, g4⟩
  have D4 : Grew w3 w4 := Grew.trans (by (repeat' (first | (with_reducible exact Grew.refl _) | (with_reducible assumption) | (with_reducible refine Grew.alloc ?_ _ _) | (with_reducible refine Grew.drew ?_) | (with_reducible refine Grew.drewN ?_ _) | (with_reducible refine Grew.setCell ?_ ?_ _) | go_size))) g4
  have G4 : Grew (((w.alloc (.cells #[.int .i64 lo.1, .int .i64 lo.2] 27)).alloc (.cells #[.int .i64 hi.1, .int .i64 hi.2] 27)).alloc (.cells #[.int .i64 x.1, .int .i64 x.2] 27)) w4 := Grew.trans G3 D4
  have R4 := Lib.hid (R3.out.grown D4)
  have BK04 := Lib.hid (BK03.out.grown D4)
  have BK14 := Lib.hid (BK13.out.grown D4)
  have BK24 := Lib.hid (BK23.out.grown D4)
  clear R3 BK03 BK13 BK23
  clear g4 D4 G3
  clear x00 x01 x10 x11 x20 x21
  obtain ⟨x00, x01⟩ := blk_two BK04.out
  obtain ⟨x10, x11⟩ := blk_two BK14.out
  obtain ⟨x20, x21⟩ := blk_two BK24.out
  cases r4
  · clear h4
    go_wp2_with fail
    go_ret
    exact ⟨rfl, GW0.trans G4⟩
  have X := Lib.hid (h4.1 rfl)
  clear h4
  go_wp2_with fail
  refine ((K.out L lo hi _ _ R4.out).mono fun _ _ h => made_ok ⟨VL.out, RC.out⟩ h).mono ?_
  rintro e w5 ⟨v5, r5, i5, rfl, s5, g5⟩
  have D5 : Grew w4 w5 := Grew.trans (by (repeat' (first | (with_reducible exact Grew.refl _) | (with_reducible assumption) | (with_reducible refine Grew.alloc ?_ _ _) | (with_reducible refine Grew.drew ?_) | (with_reducible refine Grew.drewN ?_ _) | (with_reducible refine Grew.setCell ?_ ?_ _) | go_size))) g5
  have G5 : Grew (((w.alloc (.cells #[.int .i64 lo.1, .int .i64 lo.2] 27)).alloc (.cells #[.int .i64 hi.1, .int .i64 hi.2] 27)).alloc (.cells #[.int .i64 x.1, .int .i64 x.2] 27)) w5 := Grew.trans G4 D5
  have R5 := Lib.hid (R4.out.grown D5)
  have BK05 := Lib.hid (BK04.out.grown D5)
  have BK15 := Lib.hid (BK14.out.grown D5)
  have BK25 := Lib.hid (BK24.out.grown D5)
  clear R4 BK04 BK14 BK24
  clear g5 D5 G4
  clear x00 x01 x10 x11 x20 x21
  obtain ⟨x00, x01⟩ := blk_two BK05.out
  obtain ⟨x10, x11⟩ := blk_two BK15.out
  obtain ⟨x20, x21⟩ := blk_two BK25.out
  have A5 := Lib.hid s5
  clear s5
  obtain ⟨c5, d5, t5⟩ := i5
  have W5 : Hid (VlR r5) := Lib.hid (tidy_vl (out_vl VL.out.2 d5) t5)
  have Y5 : Hid (InR L x → ¬ Bx lo.1 hi.1 lo.2 hi.2 x → InR r5 x) := Lib.hid (fun i o => tidy_has (out_vl VL.out.2 d5) t5 (out_has VL.out.2 d5 i o))
  have Z5 : Hid (L.length ≤ 8 → AllRect L → InR r5 x → InR L x ∧ ¬ Bx lo.1 hi.1 lo.2 hi.2 x) := Lib.hid (fun n i o => out_only VL.out.2 i d5 (tidy_only (by have := out_len d5; omega) t5 o))
  clear d5 t5
  go_wp2_with fail
  refine (has_ok K r5 x _ _ A5.out W5.out X.out).mono ?_
  rintro e w6 ⟨i6, rfl, h6, g6⟩
  have D6 : Grew w5 w6 := Grew.trans (by (repeat' (first | (with_reducible exact Grew.refl _) | (with_reducible assumption) | (with_reducible refine Grew.alloc ?_ _ _) | (with_reducible refine Grew.drew ?_) | (with_reducible refine Grew.drewN ?_ _) | (with_reducible refine Grew.setCell ?_ ?_ _) | go_size))) g6
  have G6 : Grew (((w.alloc (.cells #[.int .i64 lo.1, .int .i64 lo.2] 27)).alloc (.cells #[.int .i64 hi.1, .int .i64 hi.2] 27)).alloc (.cells #[.int .i64 x.1, .int .i64 x.2] 27)) w6 := Grew.trans G5 D6
  have R6 := Lib.hid (R5.out.grown D6)
  have BK06 := Lib.hid (BK05.out.grown D6)
  have BK16 := Lib.hid (BK15.out.grown D6)
  have BK26 := Lib.hid (BK25.out.grown D6)
  have A6 := Lib.hid (A5.out.grown D6)
  clear R5 BK05 BK15 BK25 A5
  clear g6 D6 G5
  clear x00 x01 x10 x11 x20 x21
  obtain ⟨x00, x01⟩ := blk_two BK06.out
  obtain ⟨x10, x11⟩ := blk_two BK16.out
  obtain ⟨x20, x21⟩ := blk_two BK26.out
  have H6 := Lib.hid h6
  clear h6
  clear A6
  go_wp2_with fail
  refine (in_c L x _ _ R6.out VL.out.2 X.out).mono ?_
  rintro e w7 ⟨i7, rfl, h7, g7⟩
  have D7 : Grew w6 w7 := Grew.trans (by (repeat' (first | (with_reducible exact Grew.refl _) | (with_reducible assumption) | (with_reducible refine Grew.alloc ?_ _ _) | (with_reducible refine Grew.drew ?_) | (with_reducible refine Grew.drewN ?_ _) | (with_reducible refine Grew.setCell ?_ ?_ _) | go_size))) g7
  have G7 : Grew (((w.alloc (.cells #[.int .i64 lo.1, .int .i64 lo.2] 27)).alloc (.cells #[.int .i64 hi.1, .int .i64 hi.2] 27)).alloc (.cells #[.int .i64 x.1, .int .i64 x.2] 27)) w7 := Grew.trans G6 D7
  have R7 := Lib.hid (R6.out.grown D7)
  have BK07 := Lib.hid (BK06.out.grown D7)
  have BK17 := Lib.hid (BK16.out.grown D7)
  have BK27 := Lib.hid (BK26.out.grown D7)
  clear R6 BK06 BK16 BK26
  clear g7 D7 G6
  clear x00 x01 x10 x11 x20 x21
  obtain ⟨x00, x01⟩ := blk_two BK07.out
  obtain ⟨x10, x11⟩ := blk_two BK17.out
  obtain ⟨x20, x21⟩ := blk_two BK27.out
  have H7 := Lib.hid h7
  clear h7
  cases i7
  · have NO : Hid (¬ (InR L x ∧ ¬ Bx lo.1 hi.1 lo.2 hi.2 x)) := Lib.hid (fun e => absurd (H7.out.2 e.1) (by decide))
    clear H7
    by_cases h8 : (8 : Int) < (L.length : Int)
    · go_wp2_with fail
      go_ret
      exact ⟨rfl, GW0.trans G7⟩
    go_wp2_with fail
    refine (rectangles_c H L _ _ R7.out VL.out.2).mono ?_
    rintro e w8 ⟨i8, rfl, h8r, g8⟩
    have D8 : Grew w7 w8 := Grew.trans (by (repeat' (first | (with_reducible exact Grew.refl _) | (with_reducible assumption) | (with_reducible refine Grew.alloc ?_ _ _) | (with_reducible refine Grew.drew ?_) | (with_reducible refine Grew.drewN ?_ _) | (with_reducible refine Grew.setCell ?_ ?_ _) | go_size))) g8
    have G8 : Grew (((w.alloc (.cells #[.int .i64 lo.1, .int .i64 lo.2] 27)).alloc (.cells #[.int .i64 hi.1, .int .i64 hi.2] 27)).alloc (.cells #[.int .i64 x.1, .int .i64 x.2] 27)) w8 := Grew.trans G7 D8
    have R8 := Lib.hid (R7.out.grown D8)
    have BK08 := Lib.hid (BK07.out.grown D8)
    have BK18 := Lib.hid (BK17.out.grown D8)
    have BK28 := Lib.hid (BK27.out.grown D8)
    clear R7 BK07 BK17 BK27
    clear g8 D8 G7
    clear x00 x01 x10 x11 x20 x21
    obtain ⟨x00, x01⟩ := blk_two BK08.out
    obtain ⟨x10, x11⟩ := blk_two BK18.out
    obtain ⟨x20, x21⟩ := blk_two BK28.out
    have H8 := Lib.hid h8r
    clear h8r
    cases i8
    · go_wp2_with fail
      go_ret
      exact ⟨rfl, GW0.trans G8⟩
    obtain rfl : i6 = false := no_of' (fun e => NO.out (Z5.out (by omega) (H8.out rfl) (H6.out.1 e)))
    go_wp2_with fail
    go_ret
    exact ⟨by first | rfl | simp [*], GW0.trans G8⟩
  have I7 : Hid (InR L x) := Lib.hid (H7.out.1 rfl)
  clear H7
  rcases Classical.em (¬ lo.1 ≤ x.1) with c0 | c0
  · have NB : Hid (¬ Bx lo.1 hi.1 lo.2 hi.2 x) := Lib.hid (fun b => c0 b.1.1)
    obtain rfl : i6 = true := H6.out.2 (Y5.out I7.out NB.out)
    by_cases h8 : (8 : Int) < (L.length : Int)
    · go_wp2_with fail
      go_ret
      exact ⟨rfl, GW0.trans G7⟩
    go_wp2_with fail
    refine (rectangles_c H L _ _ R7.out VL.out.2).mono ?_
    rintro e w8 ⟨i8, rfl, h8r, g8⟩
    have D8 : Grew w7 w8 := Grew.trans (by (repeat' (first | (with_reducible exact Grew.refl _) | (with_reducible assumption) | (with_reducible refine Grew.alloc ?_ _ _) | (with_reducible refine Grew.drew ?_) | (with_reducible refine Grew.drewN ?_ _) | (with_reducible refine Grew.setCell ?_ ?_ _) | go_size))) g8
    have G8 : Grew (((w.alloc (.cells #[.int .i64 lo.1, .int .i64 lo.2] 27)).alloc (.cells #[.int .i64 hi.1, .int .i64 hi.2] 27)).alloc (.cells #[.int .i64 x.1, .int .i64 x.2] 27)) w8 := Grew.trans G7 D8
    have R8 := Lib.hid (R7.out.grown D8)
    have BK08 := Lib.hid (BK07.out.grown D8)
    have BK18 := Lib.hid (BK17.out.grown D8)
    have BK28 := Lib.hid (BK27.out.grown D8)
    clear R7 BK07 BK17 BK27
    clear g8 D8 G7
    clear x00 x01 x10 x11 x20 x21
    obtain ⟨x00, x01⟩ := blk_two BK08.out
    obtain ⟨x10, x11⟩ := blk_two BK18.out
    obtain ⟨x20, x21⟩ := blk_two BK28.out
    have H8 := Lib.hid h8r
    clear h8r
    cases i8
    · go_wp2_with fail
      go_ret
      exact ⟨rfl, GW0.trans G8⟩
    go_wp2_with fail
    go_ret
    exact ⟨by first | rfl | simp [*], GW0.trans G8⟩
  have e0 := Classical.not_not.1 c0
  clear c0
  rcases Classical.em (¬ x.1 ≤ hi.1) with c1 | c1
  · have NB : Hid (¬ Bx lo.1 hi.1 lo.2 hi.2 x) := Lib.hid (fun b => c1 b.1.2)
    obtain rfl : i6 = true := H6.out.2 (Y5.out I7.out NB.out)
    by_cases h8 : (8 : Int) < (L.length : Int)
    · go_wp2_with fail
      go_ret
      exact ⟨rfl, GW0.trans G7⟩
    go_wp2_with fail
    refine (rectangles_c H L _ _ R7.out VL.out.2).mono ?_
    rintro e w8 ⟨i8, rfl, h8r, g8⟩
    have D8 : Grew w7 w8 := Grew.trans (by (repeat' (first | (with_reducible exact Grew.refl _) | (with_reducible assumption) | (with_reducible refine Grew.alloc ?_ _ _) | (with_reducible refine Grew.drew ?_) | (with_reducible refine Grew.drewN ?_ _) | (with_reducible refine Grew.setCell ?_ ?_ _) | go_size))) g8
    have G8 : Grew (((w.alloc (.cells #[.int .i64 lo.1, .int .i64 lo.2] 27)).alloc (.cells #[.int .i64 hi.1, .int .i64 hi.2] 27)).alloc (.cells #[.int .i64 x.1, .int .i64 x.2] 27)) w8 := Grew.trans G7 D8
    have R8 := Lib.hid (R7.out.grown D8)
    have BK08 := Lib.hid (BK07.out.grown D8)
    have BK18 := Lib.hid (BK17.out.grown D8)
    have BK28 := Lib.hid (BK27.out.grown D8)
    clear R7 BK07 BK17 BK27
    clear g8 D8 G7
    clear x00 x01 x10 x11 x20 x21
    obtain ⟨x00, x01⟩ := blk_two BK08.out
    obtain ⟨x10, x11⟩ := blk_two BK18.out
    obtain ⟨x20, x21⟩ := blk_two BK28.out
    have H8 := Lib.hid h8r
    clear h8r
    cases i8
    · go_wp2_with fail
      go_ret
      exact ⟨rfl, GW0.trans G8⟩
    go_wp2_with fail
    go_ret
    exact ⟨by first | rfl | simp [*], GW0.trans G8⟩
  have e1 := Classical.not_not.1 c1
  clear c1
  rcases Classical.em (¬ lo.2 ≤ x.2) with c2 | c2
  · have NB : Hid (¬ Bx lo.1 hi.1 lo.2 hi.2 x) := Lib.hid (fun b => c2 b.2.1)
    obtain rfl : i6 = true := H6.out.2 (Y5.out I7.out NB.out)
    by_cases h8 : (8 : Int) < (L.length : Int)
    · go_wp2_with fail
      go_ret
      exact ⟨rfl, GW0.trans G7⟩
    go_wp2_with fail
    refine (rectangles_c H L _ _ R7.out VL.out.2).mono ?_
    rintro e w8 ⟨i8, rfl, h8r, g8⟩
    have D8 : Grew w7 w8 := Grew.trans (by (repeat' (first | (with_reducible exact Grew.refl _) | (with_reducible assumption) | (with_reducible refine Grew.alloc ?_ _ _) | (with_reducible refine Grew.drew ?_) | (with_reducible refine Grew.drewN ?_ _) | (with_reducible refine Grew.setCell ?_ ?_ _) | go_size))) g8
    have G8 : Grew (((w.alloc (.cells #[.int .i64 lo.1, .int .i64 lo.2] 27)).alloc (.cells #[.int .i64 hi.1, .int .i64 hi.2] 27)).alloc (.cells #[.int .i64 x.1, .int .i64 x.2] 27)) w8 := Grew.trans G7 D8
    have R8 := Lib.hid (R7.out.grown D8)
    have BK08 := Lib.hid (BK07.out.grown D8)
    have BK18 := Lib.hid (BK17.out.grown D8)
    have BK28 := Lib.hid (BK27.out.grown D8)
    clear R7 BK07 BK17 BK27
    clear g8 D8 G7
    clear x00 x01 x10 x11 x20 x21
    obtain ⟨x00, x01⟩ := blk_two BK08.out
    obtain ⟨x10, x11⟩ := blk_two BK18.out
    obtain ⟨x20, x21⟩ := blk_two BK28.out
    have H8 := Lib.hid h8r
    clear h8r
    cases i8
    · go_wp2_with fail
      go_ret
      exact ⟨rfl, GW0.trans G8⟩
    go_wp2_with fail
    go_ret
    exact ⟨by first | rfl | simp [*], GW0.trans G8⟩
  have e2 := Classical.not_not.1 c2
  clear c2
  rcases Classical.em (¬ x.2 ≤ hi.2) with c3 | c3
  · have NB : Hid (¬ Bx lo.1 hi.1 lo.2 hi.2 x) := Lib.hid (fun b => c3 b.2.2)
    obtain rfl : i6 = true := H6.out.2 (Y5.out I7.out NB.out)
    by_cases h8 : (8 : Int) < (L.length : Int)
    · go_wp2_with fail
      go_ret
      exact ⟨rfl, GW0.trans G7⟩
    go_wp2_with fail
    refine (rectangles_c H L _ _ R7.out VL.out.2).mono ?_
    rintro e w8 ⟨i8, rfl, h8r, g8⟩
    have D8 : Grew w7 w8 := Grew.trans (by (repeat' (first | (with_reducible exact Grew.refl _) | (with_reducible assumption) | (with_reducible refine Grew.alloc ?_ _ _) | (with_reducible refine Grew.drew ?_) | (with_reducible refine Grew.drewN ?_ _) | (with_reducible refine Grew.setCell ?_ ?_ _) | go_size))) g8
    have G8 : Grew (((w.alloc (.cells #[.int .i64 lo.1, .int .i64 lo.2] 27)).alloc (.cells #[.int .i64 hi.1, .int .i64 hi.2] 27)).alloc (.cells #[.int .i64 x.1, .int .i64 x.2] 27)) w8 := Grew.trans G7 D8
    have R8 := Lib.hid (R7.out.grown D8)
    have BK08 := Lib.hid (BK07.out.grown D8)
    have BK18 := Lib.hid (BK17.out.grown D8)
    have BK28 := Lib.hid (BK27.out.grown D8)
    clear R7 BK07 BK17 BK27
    clear g8 D8 G7
    clear x00 x01 x10 x11 x20 x21
    obtain ⟨x00, x01⟩ := blk_two BK08.out
    obtain ⟨x10, x11⟩ := blk_two BK18.out
    obtain ⟨x20, x21⟩ := blk_two BK28.out
    have H8 := Lib.hid h8r
    clear h8r
    cases i8
    · go_wp2_with fail
      go_ret
      exact ⟨rfl, GW0.trans G8⟩
    go_wp2_with fail
    go_ret
    exact ⟨by first | rfl | simp [*], GW0.trans G8⟩
  have e3 := Classical.not_not.1 c3
  clear c3
  have NO : Hid (¬ (InR L x ∧ ¬ Bx lo.1 hi.1 lo.2 hi.2 x)) := Lib.hid (fun e => e.2 ⟨⟨e0, e1⟩, e2, e3⟩)
  by_cases h8 : (8 : Int) < (L.length : Int)
  · go_wp2_with fail
    go_ret
    exact ⟨rfl, GW0.trans G7⟩
  go_wp2_with fail
  refine (rectangles_c H L _ _ R7.out VL.out.2).mono ?_
  rintro e w8 ⟨i8, rfl, h8r, g8⟩
  have D8 : Grew w7 w8 := Grew.trans (by (repeat' (first | (with_reducible exact Grew.refl _) | (with_reducible assumption) | (with_reducible refine Grew.alloc ?_ _ _) | (with_reducible refine Grew.drew ?_) | (with_reducible refine Grew.drewN ?_ _) | (with_reducible refine Grew.setCell ?_ ?_ _) | go_size))) g8
  have G8 : Grew (((w.alloc (.cells #[.int .i64 lo.1, .int .i64 lo.2] 27)).alloc (.cells #[.int .i64 hi.1, .int .i64 hi.2] 27)).alloc (.cells #[.int .i64 x.1, .int .i64 x.2] 27)) w8 := Grew.trans G7 D8
  have R8 := Lib.hid (R7.out.grown D8)
  have BK08 := Lib.hid (BK07.out.grown D8)
  have BK18 := Lib.hid (BK17.out.grown D8)
  have BK28 := Lib.hid (BK27.out.grown D8)
  clear R7 BK07 BK17 BK27
  clear g8 D8 G7
  clear x00 x01 x10 x11 x20 x21
  obtain ⟨x00, x01⟩ := blk_two BK08.out
  obtain ⟨x10, x11⟩ := blk_two BK18.out
  obtain ⟨x20, x21⟩ := blk_two BK28.out
  have H8 := Lib.hid h8r
  clear h8r
  cases i8
  · go_wp2_with fail
    go_ret
    exact ⟨rfl, GW0.trans G8⟩
  obtain rfl : i6 = false := no_of' (fun e => NO.out (Z5.out (by omega) (H8.out rfl) (H6.out.1 e)))
  go_wp2_with fail
  go_ret
  exact ⟨by first | rfl | simp [*], GW0.trans G8⟩
end Rg
end Go.Proofs.YtlookcbokhknfaaGreat
