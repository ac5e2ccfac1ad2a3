/-
  The laws RegionSums and RegionJoins, under what packages region and hull owe.
-/
import Derived.Test.YtlookcbokhknfaaGreatRegU
namespace Go.Proofs.YtlookcbokhknfaaGreat
open Go.RowKit Go.Shelf Hl
namespace Rg
open Ct (Hf WF ov)
set_option maxRecDepth 100000 in
set_option maxHeartbeats 4000000 in
theorem sums_true (K : Code) (H : Hl.Code) (L : Rgn) (p : List Pt) (x y : Pt) (v u : Value) (w : World) (hs : Rl w v L) (hu : Sl w u p) (hp : p.length ≤ 9223372036854775807) : Calls Tryz.prog 7 #[v, u, .agg #[.int .i64 x.1, .int .i64 x.2], .agg #[.int .i64 y.1, .int .i64 y.2]] w fun e w' => e = .returned (.bool true) ∧ Grew w w' := by
  obtain ⟨va, vc, rfl⟩ := hs.shape
  obtain ⟨ua, uc, rfl⟩ := hu.shape
  have R := Lib.hid hs
  have Q := Lib.hid hu
  have LP := Lib.hid hp
  clear hs hu hp
  have BK00 := Lib.hid ((Blk.new (w) #[.int .i64 x.1, .int .i64 x.2] 27).grown ((Grew.refl _).alloc #[.int .i64 y.1, .int .i64 y.2] 27))
  have BK10 := Lib.hid ((Blk.new ((w.alloc (.cells #[.int .i64 x.1, .int .i64 x.2] 27))) #[.int .i64 y.1, .int .i64 y.2] 27))
  simp only [World.size_alloc] at BK10
  have GW0 : Grew w ((w.alloc (.cells #[.int .i64 x.1, .int .i64 x.2] 27)).alloc (.cells #[.int .i64 y.1, .int .i64 y.2] 27)) := (by (repeat' (first | (with_reducible exact Grew.refl _) | (with_reducible assumption) | (with_reducible refine Grew.alloc ?_ _ _) | (with_reducible refine Grew.drew ?_) | (with_reducible refine Grew.drewN ?_ _) | (with_reducible refine Grew.setCell ?_ ?_ _) | go_size)))
  have G0 : Grew ((w.alloc (.cells #[.int .i64 x.1, .int .i64 x.2] 27)).alloc (.cells #[.int .i64 y.1, .int .i64 y.2] 27)) ((w.alloc (.cells #[.int .i64 x.1, .int .i64 x.2] 27)).alloc (.cells #[.int .i64 y.1, .int .i64 y.2] 27)) := Grew.refl _
  have R0 := Lib.hid (R.out.grown (w' := ((w.alloc (.cells #[.int .i64 x.1, .int .i64 x.2] 27)).alloc (.cells #[.int .i64 y.1, .int .i64 y.2] 27))) (by (repeat' (first | (with_reducible exact Grew.refl _) | (with_reducible assumption) | (with_reducible refine Grew.alloc ?_ _ _) | (with_reducible refine Grew.drew ?_) | (with_reducible refine Grew.drewN ?_ _) | (with_reducible refine Grew.setCell ?_ ?_ _) | go_size))))
  have Q0 := Lib.hid (Q.out.grown (w' := ((w.alloc (.cells #[.int .i64 x.1, .int .i64 x.2] 27)).alloc (.cells #[.int .i64 y.1, .int .i64 y.2] 27))) (by (repeat' (first | (with_reducible exact Grew.refl _) | (with_reducible assumption) | (with_reducible refine Grew.alloc ?_ _ _) | (with_reducible refine Grew.drew ?_) | (with_reducible refine Grew.drewN ?_ _) | (with_reducible refine Grew.setCell ?_ ?_ _) | go_size))))
  go_enter Tryz.func7, Tryz.ntmps7
  go_wp2_with fail
  refine (head_true K _).mono ?_
  rintro e w1 ⟨rfl, g1⟩
  have D1 : Grew ((w.alloc (.cells #[.int .i64 x.1, .int .i64 x.2] 27)).alloc (.cells #[.int .i64 y.1, .int .i64 y.2] 27)) w1 := Grew.trans (by (repeat' (first | (with_reducible exact Grew.refl _) | (with_reducible assumption) | (with_reducible refine Grew.alloc ?_ _ _) | (with_reducible refine Grew.drew ?_) | (with_reducible refine Grew.drewN ?_ _) | (with_reducible refine Grew.setCell ?_ ?_ _) | go_size))) g1
  have G1 : Grew ((w.alloc (.cells #[.int .i64 x.1, .int .i64 x.2] 27)).alloc (.cells #[.int .i64 y.1, .int .i64 y.2] 27)) w1 := Grew.trans G0 D1
  have R1 := Lib.hid (R0.out.grown D1)
  have Q1 := Lib.hid (Q0.out.grown D1)
  have BK01 := Lib.hid (BK00.out.grown D1)
  have BK11 := Lib.hid (BK10.out.grown D1)
  clear R0 Q0 BK00 BK10
  clear g1 D1 G0
  obtain ⟨x00, x01⟩ := blk_two BK01.out
  obtain ⟨x10, x11⟩ := blk_two BK11.out
  go_wp2_with fail
  refine (usable_c L [] _ _ _ R1.out (Rl.nil _ none 0)).mono ?_
  rintro e w2 ⟨r2, rfl, h2, g2⟩
  have D2 : Grew w1 w2 := Grew.trans (by (repeat' (first | (with_reducible exact Grew.refl _) | (with_reducible assumption) | (with_reducible refine Grew.alloc ?_ _ _) | (with_reducible refine Grew.drew ?_) | (with_reducible refine Grew.drewN ?_ _) | (with_reducible refine Grew.setCell ?_ ?_ _) | go_size))) g2
  have G2 : Grew ((w.alloc (.cells #[.int .i64 x.1, .int .i64 x.2] 27)).alloc (.cells #[.int .i64 y.1, .int .i64 y.2] 27)) w2 := Grew.trans G1 D2
  have R2 := Lib.hid (R1.out.grown D2)
  have Q2 := Lib.hid (Q1.out.grown D2)
  have BK02 := Lib.hid (BK01.out.grown D2)
  have BK12 := Lib.hid (BK11.out.grown D2)
  clear R1 Q1 BK01 BK11
  clear g2 D2 G1
  clear x00 x01 x10 x11
  obtain ⟨x00, x01⟩ := blk_two BK02.out
  obtain ⟨x10, x11⟩ := blk_two BK12.out
  cases r2
  · clear h2
    go_wp2_with fail
    go_ret
    exact ⟨rfl, GW0.trans G2⟩
  have VL := Lib.hid ((h2 rfl).1)
  clear h2
  by_cases h80 : (80 : Int) < (p.length : Int)
  · go_wp2_with fail
    go_ret
    exact ⟨rfl, GW0.trans G2⟩
  go_wp2_with fail
  refine (place_t x _).mono ?_
  rintro e w3 ⟨r3, rfl, h3, g3⟩
  have D3 : Grew w2 w3 := Grew.trans (by (repeat' (first | (with_reducible exact Grew.refl _) | (with_reducible assumption) | (with_reducible refine Grew.alloc ?_ _ _) | (with_reducible refine Grew.drew ?_) | (with_reducible refine Grew.drewN ?_ _) | (with_reducible refine Grew.setCell ?_ ?_ _) | go_size))) g3
  have G3 : Grew ((w.alloc (.cells #[.int .i64 x.1, .int .i64 x.2] 27)).alloc (.cells #[.int .i64 y.1, .int .i64 y.2] 27)) w3 := Grew.trans G2 D3
  have R3 := Lib.hid (R2.out.grown D3)
  have Q3 := Lib.hid (Q2.out.grown D3)
  have BK03 := Lib.hid (BK02.out.grown D3)
  have BK13 := Lib.hid (BK12.out.grown D3)
  clear R2 Q2 BK02 BK12
  clear g3 D3 G2
  clear x00 x01 x10 x11
  obtain ⟨x00, x01⟩ := blk_two BK03.out
  obtain ⟨x10, x11⟩ := blk_two BK13.out
  cases r3
  · clear h3
    go_wp2_with fail
    go_ret
    exact ⟨rfl, GW0.trans G3⟩
  have X := Lib.hid (h3.1 rfl)
  clear h3
  go_wp2_with fail
  refine (in_c L x _ _ R3.out VL.out.2 X.out).mono ?_
  rintro e w4 ⟨r4, rfl, h4, g4⟩
  have D4 : Grew w3 w4 := Grew.trans (by (repeat' (first | (with_reducible exact Grew.refl _) | (with_reducible assumption) | (with_reducible refine Grew.alloc ?_ _ _) | (with_reducible refine Grew.drew ?_) | (with_reducible refine Grew.drewN ?_ _) | (with_reducible refine Grew.setCell ?_ ?_ _) | go_size))) g4
  have G4 : Grew ((w.alloc (.cells #[.int .i64 x.1, .int .i64 x.2] 27)).alloc (.cells #[.int .i64 y.1, .int .i64 y.2] 27)) w4 := Grew.trans G3 D4
  have R4 := Lib.hid (R3.out.grown D4)
  have Q4 := Lib.hid (Q3.out.grown D4)
  have BK04 := Lib.hid (BK03.out.grown D4)
  have BK14 := Lib.hid (BK13.out.grown D4)
  clear R3 Q3 BK03 BK13
  clear g4 D4 G3
  clear x00 x01 x10 x11
  obtain ⟨x00, x01⟩ := blk_two BK04.out
  obtain ⟨x10, x11⟩ := blk_two BK14.out
  cases r4
  · clear h4
    go_wp2_with fail
    go_ret
    exact ⟨rfl, GW0.trans G4⟩
  have IX := Lib.hid (h4.1 rfl)
  clear h4
  go_wp2_with fail
  refine (hhas_c H p y _ _ Q4.out LP.out).mono ?_
  rintro e w5 ⟨r5, k5, i5, rfl, g5⟩
  have D5 : Grew w4 w5 := Grew.trans (by (repeat' (first | (with_reducible exact Grew.refl _) | (with_reducible assumption) | (with_reducible refine Grew.alloc ?_ _ _) | (with_reducible refine Grew.drew ?_) | (with_reducible refine Grew.drewN ?_ _) | (with_reducible refine Grew.setCell ?_ ?_ _) | go_size))) g5
  have G5 : Grew ((w.alloc (.cells #[.int .i64 x.1, .int .i64 x.2] 27)).alloc (.cells #[.int .i64 y.1, .int .i64 y.2] 27)) w5 := Grew.trans G4 D5
  have R5 := Lib.hid (R4.out.grown D5)
  have Q5 := Lib.hid (Q4.out.grown D5)
  have BK05 := Lib.hid (BK04.out.grown D5)
  have BK15 := Lib.hid (BK14.out.grown D5)
  clear R4 Q4 BK04 BK14
  clear g5 D5 G4
  clear x00 x01 x10 x11
  obtain ⟨x00, x01⟩ := blk_two BK05.out
  obtain ⟨x10, x11⟩ := blk_two BK15.out
  rcases i5 with ⟨_, rfl, rfl⟩ | ⟨hb, h5, rfl⟩
  · go_wp2_with fail
    go_ret
    exact ⟨rfl, GW0.trans G5⟩
  cases r5
  · clear h5 hb
    go_wp2_with fail
    go_ret
    exact ⟨rfl, GW0.trans G5⟩
  have VP := Lib.hid hb.1
  have Y := Lib.hid hb.2
  have HY := Lib.hid (h5.1 rfl)
  clear h5 hb
  go_wp2_with fail
  refine (K.sum L p _ _ _ R5.out Q5.out LP.out).mono ?_
  rintro e w6 ⟨v6, k6, r6, i6, rfl, s6, g6⟩
  have D6 : Grew w5 w6 := Grew.trans (by (repeat' (first | (with_reducible exact Grew.refl _) | (with_reducible assumption) | (with_reducible refine Grew.alloc ?_ _ _) | (with_reducible refine Grew.drew ?_) | (with_reducible refine Grew.drewN ?_ _) | (with_reducible refine Grew.setCell ?_ ?_ _) | go_size))) g6
  have G6 : Grew ((w.alloc (.cells #[.int .i64 x.1, .int .i64 x.2] 27)).alloc (.cells #[.int .i64 y.1, .int .i64 y.2] 27)) w6 := Grew.trans G5 D6
  have R6 := Lib.hid (R5.out.grown D6)
  have Q6 := Lib.hid (Q5.out.grown D6)
  have BK06 := Lib.hid (BK05.out.grown D6)
  have BK16 := Lib.hid (BK15.out.grown D6)
  clear R5 Q5 BK05 BK15
  clear g6 D6 G5
  clear x00 x01 x10 x11
  obtain ⟨x00, x01⟩ := blk_two BK06.out
  obtain ⟨x10, x11⟩ := blk_two BK16.out
  have A6 := Lib.hid s6
  clear s6
  rcases i6 with ⟨rfl, rfl, _, _⟩ | ⟨hn, _⟩ | ⟨_, rfl, c, hc, ht⟩
  · go_wp2_with fail
    go_ret
    exact ⟨rfl, GW0.trans G6⟩
  · exact absurd ⟨VL.out, VP.out⟩ hn
  have V6 := Lib.hid (tidy_vl (sum_vl (Nat.le_refl _) VL.out.2 VP.out hc) ht)
  have I6 := Lib.hid (tidy_has (sum_vl (Nat.le_refl _) VL.out.2 VP.out hc) ht (sum_has VL.out.2 VP.out hc IX.out HY.out))
  clear hc ht
  obtain ⟨⟨b1, b2⟩, b3, b4⟩ := X.out
  obtain ⟨⟨b5, b6⟩, b7, b8⟩ := Y.out
  go_wp2_with fail
  refine (at_c _ _ _).mono ?_
  rintro e w7 ⟨rfl, g7⟩
  have D7 : Grew w6 w7 := Grew.trans (by (repeat' (first | (with_reducible exact Grew.refl _) | (with_reducible assumption) | (with_reducible refine Grew.alloc ?_ _ _) | (with_reducible refine Grew.drew ?_) | (with_reducible refine Grew.drewN ?_ _) | (with_reducible refine Grew.setCell ?_ ?_ _) | go_size))) g7
  have G7 : Grew ((w.alloc (.cells #[.int .i64 x.1, .int .i64 x.2] 27)).alloc (.cells #[.int .i64 y.1, .int .i64 y.2] 27)) w7 := Grew.trans G6 D7
  have R7 := Lib.hid (R6.out.grown D7)
  have Q7 := Lib.hid (Q6.out.grown D7)
  have BK07 := Lib.hid (BK06.out.grown D7)
  have BK17 := Lib.hid (BK16.out.grown D7)
  have A7 := Lib.hid (A6.out.grown D7)
  clear R6 Q6 BK06 BK16 A6
  clear g7 D7 G6
  clear x00 x01 x10 x11
  obtain ⟨x00, x01⟩ := blk_two BK07.out
  obtain ⟨x10, x11⟩ := blk_two BK17.out
  go_wp2_with fail
  refine (has_yes K r6 (Mk.plus x y) _ _ A7.out V6.out I6.out).mono ?_
  rintro e w8 ⟨rfl, g8⟩
  have D8 : Grew w7 w8 := Grew.trans (by (repeat' (first | (with_reducible exact Grew.refl _) | (with_reducible assumption) | (with_reducible refine Grew.alloc ?_ _ _) | (with_reducible refine Grew.drew ?_) | (with_reducible refine Grew.drewN ?_ _) | (with_reducible refine Grew.setCell ?_ ?_ _) | go_size))) g8
  have G8 : Grew ((w.alloc (.cells #[.int .i64 x.1, .int .i64 x.2] 27)).alloc (.cells #[.int .i64 y.1, .int .i64 y.2] 27)) w8 := Grew.trans G7 D8
  have R8 := Lib.hid (R7.out.grown D8)
  have Q8 := Lib.hid (Q7.out.grown D8)
  have BK08 := Lib.hid (BK07.out.grown D8)
  have BK18 := Lib.hid (BK17.out.grown D8)
  have A8 := Lib.hid (A7.out.grown D8)
  clear R7 Q7 BK07 BK17 A7
  clear g8 D8 G7
  clear x00 x01 x10 x11
  obtain ⟨x00, x01⟩ := blk_two BK08.out
  obtain ⟨x10, x11⟩ := blk_two BK18.out
  go_wp2_with fail
  go_ret
  exact ⟨rfl, GW0.trans G8⟩
theorem app_vl {a b : Rgn} (h : AllV a) (k : AllV b) : AllV (a ++ b) := fun p hp => (List.mem_append.1 hp).elim (h p) (k p)
theorem no_of' {b : Bool} (h : ¬ b = true) : b = false := by cases b <;> simp_all
theorem inR_swap {a b : Rgn} {x : Pt} (h : InR (b ++ a) x) : InR (a ++ b) x := inR_app.2 (inR_app.1 h).symm
set_option maxRecDepth 100000 in
set_option maxHeartbeats 4000000 in
theorem joins_true (K : Code) (L M : Rgn) (x : Pt) (v u : Value) (w : World) (hs : Rl w v L) (hu : Rl w u M) : Calls Tryz.prog 5 #[v, u, .agg #[.int .i64 x.1, .int .i64 x.2]] w fun e w' => e = .returned (.bool true) ∧ Grew w w' := by
  obtain ⟨va, vc, rfl⟩ := hs.shape
  obtain ⟨ua, uc, rfl⟩ := hu.shape
  have R := Lib.hid hs
  have S := Lib.hid hu
  clear hs hu
  have BK00 := Lib.hid ((Blk.new (w) #[.int .i64 x.1, .int .i64 x.2] 27))
  have GW0 : Grew w (w.alloc (.cells #[.int .i64 x.1, .int .i64 x.2] 27)) := (by (repeat' (first | (with_reducible exact Grew.refl _) | (with_reducible assumption) | (with_reducible refine Grew.alloc ?_ _ _) | (with_reducible refine Grew.drew ?_) | (with_reducible refine Grew.drewN ?_ _) | (with_reducible refine Grew.setCell ?_ ?_ _) | go_size)))
  have G0 : Grew (w.alloc (.cells #[.int .i64 x.1, .int .i64 x.2] 27)) (w.alloc (.cells #[.int .i64 x.1, .int .i64 x.2] 27)) := Grew.refl _
  have R0 := Lib.hid (R.out.grown (w' := (w.alloc (.cells #[.int .i64 x.1, .int .i64 x.2] 27))) (by (repeat' (first | (with_reducible exact Grew.refl _) | (with_reducible assumption) | (with_reducible refine Grew.alloc ?_ _ _) | (with_reducible refine Grew.drew ?_) | (with_reducible refine Grew.drewN ?_ _) | (with_reducible refine Grew.setCell ?_ ?_ _) | go_size))))
  have S0 := Lib.hid (S.out.grown (w' := (w.alloc (.cells #[.int .i64 x.1, .int .i64 x.2] 27))) (by (repeat' (first | (with_reducible exact Grew.refl _) | (with_reducible assumption) | (with_reducible refine Grew.alloc ?_ _ _) | (with_reducible refine Grew.drew ?_) | (with_reducible refine Grew.drewN ?_ _) | (with_reducible refine Grew.setCell ?_ ?_ _) | go_size))))
  go_enter Tryz.func5, Tryz.ntmps5
  go_wp2_with fail
  refine (head_true K _).mono ?_
  rintro e w1 ⟨rfl, g1⟩
  have D1 : Grew (w.alloc (.cells #[.int .i64 x.1, .int .i64 x.2] 27)) w1 := Grew.trans (by (repeat' (first | (with_reducible exact Grew.refl _) | (with_reducible assumption) | (with_reducible refine Grew.alloc ?_ _ _) | (with_reducible refine Grew.drew ?_) | (with_reducible refine Grew.drewN ?_ _) | (with_reducible refine Grew.setCell ?_ ?_ _) | go_size))) g1
  have G1 : Grew (w.alloc (.cells #[.int .i64 x.1, .int .i64 x.2] 27)) w1 := Grew.trans G0 D1
  have R1 := Lib.hid (R0.out.grown D1)
  have S1 := Lib.hid (S0.out.grown D1)
  have BK01 := Lib.hid (BK00.out.grown D1)
  clear R0 S0 BK00
  clear g1 D1 G0
  obtain ⟨x00, x01⟩ := blk_two BK01.out
  go_wp2_with fail
  refine (usable_c L M _ _ _ R1.out S1.out).mono ?_
  rintro e w2 ⟨r2, rfl, h2, g2⟩
  have D2 : Grew w1 w2 := Grew.trans (by (repeat' (first | (with_reducible exact Grew.refl _) | (with_reducible assumption) | (with_reducible refine Grew.alloc ?_ _ _) | (with_reducible refine Grew.drew ?_) | (with_reducible refine Grew.drewN ?_ _) | (with_reducible refine Grew.setCell ?_ ?_ _) | go_size))) g2
  have G2 : Grew (w.alloc (.cells #[.int .i64 x.1, .int .i64 x.2] 27)) w2 := Grew.trans G1 D2
  have R2 := Lib.hid (R1.out.grown D2)
  have S2 := Lib.hid (S1.out.grown D2)
  have BK02 := Lib.hid (BK01.out.grown D2)
  clear R1 S1 BK01
  clear g2 D2 G1
  clear x00 x01
  obtain ⟨x00, x01⟩ := blk_two BK02.out
  cases r2
  · clear h2
    go_wp2_with fail
    go_ret
    exact ⟨rfl, GW0.trans G2⟩
  have VL := Lib.hid (h2 rfl).1
  have VM := Lib.hid (h2 rfl).2
  clear h2
  go_wp2_with fail
  refine (place_t x _).mono ?_
  rintro e w3 ⟨r3, rfl, h3, g3⟩
  have D3 : Grew w2 w3 := Grew.trans (by (repeat' (first | (with_reducible exact Grew.refl _) | (with_reducible assumption) | (with_reducible refine Grew.alloc ?_ _ _) | (with_reducible refine Grew.drew ?_) | (with_reducible refine Grew.drewN ?_ _) | (with_reducible refine Grew.setCell ?_ ?_ _) | go_size))) g3
  have G3 : Grew (w.alloc (.cells #[.int .i64 x.1, .int .i64 x.2] 27)) w3 := Grew.trans G2 D3
  have R3 := Lib.hid (R2.out.grown D3)
  have S3 := Lib.hid (S2.out.grown D3)
  have BK03 := Lib.hid (BK02.out.grown D3)
  clear R2 S2 BK02
  clear g3 D3 G2
  clear x00 x01
  obtain ⟨x00, x01⟩ := blk_two BK03.out
  cases r3
  · clear h3
    go_wp2_with fail
    go_ret
    exact ⟨rfl, GW0.trans G3⟩
  have X := Lib.hid (h3.1 rfl)
  clear h3
  go_wp2_with fail
  refine ((K.join L M _ _ _ R3.out S3.out).mono fun _ _ h => made_ok ⟨VL.out, VM.out⟩ h).mono ?_
  rintro e w4 ⟨v4, r4, i4, rfl, s4, g4⟩
  have D4 : Grew w3 w4 := Grew.trans (by (repeat' (first | (with_reducible exact Grew.refl _) | (with_reducible assumption) | (with_reducible refine Grew.alloc ?_ _ _) | (with_reducible refine Grew.drew ?_) | (with_reducible refine Grew.drewN ?_ _) | (with_reducible refine Grew.setCell ?_ ?_ _) | go_size))) g4
  have G4 : Grew (w.alloc (.cells #[.int .i64 x.1, .int .i64 x.2] 27)) w4 := Grew.trans G3 D4
  have R4 := Lib.hid (R3.out.grown D4)
  have S4 := Lib.hid (S3.out.grown D4)
  have BK04 := Lib.hid (BK03.out.grown D4)
  clear R3 S3 BK03
  clear g4 D4 G3
  clear x00 x01
  obtain ⟨x00, x01⟩ := blk_two BK04.out
  have A4 := Lib.hid s4
  clear s4
  obtain ⟨c4, rfl, t4⟩ := i4
  have T4 := Lib.hid t4
  clear t4
  have W4 : Hid (VlR r4) := Lib.hid (tidy_vl (app_vl VL.out.2 VM.out.2) T4.out)
  go_wp2_with fail
  refine ((K.join M L _ _ _ S4.out R4.out).mono fun _ _ h => made_ok ⟨VM.out, VL.out⟩ h).mono ?_
  rintro e w5 ⟨v5, r5, i5, rfl, s5, g5⟩
  have D5 : Grew w4 w5 := Grew.trans (by (repeat' (first | (with_reducible exact Grew.refl _) | (with_reducible assumption) | (with_reducible refine Grew.alloc ?_ _ _) | (with_reducible refine Grew.drew ?_) | (with_reducible refine Grew.drewN ?_ _) | (with_reducible refine Grew.setCell ?_ ?_ _) | go_size))) g5
  have G5 : Grew (w.alloc (.cells #[.int .i64 x.1, .int .i64 x.2] 27)) w5 := Grew.trans G4 D5
  have R5 := Lib.hid (R4.out.grown D5)
  have S5 := Lib.hid (S4.out.grown D5)
  have BK05 := Lib.hid (BK04.out.grown D5)
  have A5 := Lib.hid (A4.out.grown D5)
  clear R4 S4 BK04 A4
  clear g5 D5 G4
  clear x00 x01
  obtain ⟨x00, x01⟩ := blk_two BK05.out
  have B5 := Lib.hid s5
  clear s5
  obtain ⟨c5, rfl, t5⟩ := i5
  have T5 := Lib.hid t5
  clear t5
  have W5 : Hid (VlR r5) := Lib.hid (tidy_vl (app_vl VM.out.2 VL.out.2) T5.out)
  go_wp2_with fail
  refine (has_ok K r4 x _ _ A5.out W4.out X.out).mono ?_
  rintro e w6 ⟨i6, rfl, h6, g6⟩
  have D6 : Grew w5 w6 := Grew.trans (by (repeat' (first | (with_reducible exact Grew.refl _) | (with_reducible assumption) | (with_reducible refine Grew.alloc ?_ _ _) | (with_reducible refine Grew.drew ?_) | (with_reducible refine Grew.drewN ?_ _) | (with_reducible refine Grew.setCell ?_ ?_ _) | go_size))) g6
  have G6 : Grew (w.alloc (.cells #[.int .i64 x.1, .int .i64 x.2] 27)) w6 := Grew.trans G5 D6
  have R6 := Lib.hid (R5.out.grown D6)
  have S6 := Lib.hid (S5.out.grown D6)
  have BK06 := Lib.hid (BK05.out.grown D6)
  have A6 := Lib.hid (A5.out.grown D6)
  have B6 := Lib.hid (B5.out.grown D6)
  clear R5 S5 BK05 A5 B5
  clear g6 D6 G5
  clear x00 x01
  obtain ⟨x00, x01⟩ := blk_two BK06.out
  have H6 := Lib.hid h6
  clear h6
  go_wp2_with fail
  refine (has_ok K r5 x _ _ B6.out W5.out X.out).mono ?_
  rintro e w7 ⟨i7, rfl, h7, g7⟩
  have D7 : Grew w6 w7 := Grew.trans (by (repeat' (first | (with_reducible exact Grew.refl _) | (with_reducible assumption) | (with_reducible refine Grew.alloc ?_ _ _) | (with_reducible refine Grew.drew ?_) | (with_reducible refine Grew.drewN ?_ _) | (with_reducible refine Grew.setCell ?_ ?_ _) | go_size))) g7
  have G7 : Grew (w.alloc (.cells #[.int .i64 x.1, .int .i64 x.2] 27)) w7 := Grew.trans G6 D7
  have R7 := Lib.hid (R6.out.grown D7)
  have S7 := Lib.hid (S6.out.grown D7)
  have BK07 := Lib.hid (BK06.out.grown D7)
  have A7 := Lib.hid (A6.out.grown D7)
  have B7 := Lib.hid (B6.out.grown D7)
  clear R6 S6 BK06 A6 B6
  clear g7 D7 G6
  clear x00 x01
  obtain ⟨x00, x01⟩ := blk_two BK07.out
  have H7 := Lib.hid h7
  clear h7
  go_wp2_with fail
  refine (in_c L x _ _ R7.out VL.out.2 X.out).mono ?_
  rintro e w8 ⟨i8, rfl, h8, g8⟩
  have D8 : Grew w7 w8 := Grew.trans (by (repeat' (first | (with_reducible exact Grew.refl _) | (with_reducible assumption) | (with_reducible refine Grew.alloc ?_ _ _) | (with_reducible refine Grew.drew ?_) | (with_reducible refine Grew.drewN ?_ _) | (with_reducible refine Grew.setCell ?_ ?_ _) | go_size))) g8
  have G8 : Grew (w.alloc (.cells #[.int .i64 x.1, .int .i64 x.2] 27)) w8 := Grew.trans G7 D8
  have R8 := Lib.hid (R7.out.grown D8)
  have S8 := Lib.hid (S7.out.grown D8)
  have BK08 := Lib.hid (BK07.out.grown D8)
  have A8 := Lib.hid (A7.out.grown D8)
  have B8 := Lib.hid (B7.out.grown D8)
  clear R7 S7 BK07 A7 B7
  clear g8 D8 G7
  clear x00 x01
  obtain ⟨x00, x01⟩ := blk_two BK08.out
  have H8 := Lib.hid h8
  clear h8
  have LW := len_wrap VL.out.1 VM.out.1
  cases i8
  · have N8 : Hid (¬ InR L x) := Lib.hid (fun e => absurd (H8.out.2 e) (by decide))
    clear H8
    go_wp2_with fail
    refine (in_c M x _ _ S8.out VM.out.2 X.out).mono ?_
    rintro e w9 ⟨i9, rfl, h9, g9⟩
    have D9 : Grew w8 w9 := Grew.trans (by (repeat' (first | (with_reducible exact Grew.refl _) | (with_reducible assumption) | (with_reducible refine Grew.alloc ?_ _ _) | (with_reducible refine Grew.drew ?_) | (with_reducible refine Grew.drewN ?_ _) | (with_reducible refine Grew.setCell ?_ ?_ _) | go_size))) g9
    have G9 : Grew (w.alloc (.cells #[.int .i64 x.1, .int .i64 x.2] 27)) w9 := Grew.trans G8 D9
    have R9 := Lib.hid (R8.out.grown D9)
    have S9 := Lib.hid (S8.out.grown D9)
    have BK09 := Lib.hid (BK08.out.grown D9)
    have A9 := Lib.hid (A8.out.grown D9)
    have B9 := Lib.hid (B8.out.grown D9)
    clear R8 S8 BK08 A8 B8
    clear g9 D9 G8
    clear x00 x01
    obtain ⟨x00, x01⟩ := blk_two BK09.out
    have H9 := Lib.hid h9
    clear h9
    cases i9
    · have NO : Hid (¬ InR (L ++ M) x) := Lib.hid (fun e => (inR_app.1 e).elim N8.out (fun e => absurd (H9.out.2 e) (by decide)))
      clear H9
      by_cases h32 : (32 : Int) < (L.length : Int) + (M.length : Int)
      · go_wp2_with fail
        go_ret
        exact ⟨rfl, GW0.trans G9⟩
      · have hl : L.length + M.length ≤ 32 := by omega
        obtain rfl : i6 = false := no_of' (fun e => NO.out (tidy_only (by rw [List.length_append]; omega) T4.out (H6.out.1 e)))
        obtain rfl : i7 = false := no_of' (fun e => NO.out (inR_swap (tidy_only (by rw [List.length_append]; omega) T5.out (H7.out.1 e))))
        clear hl
        go_wp2_with fail
        go_ret
        exact ⟨rfl, GW0.trans G9⟩
    have I9 : Hid (InR M x) := Lib.hid (H9.out.1 rfl)
    clear H9
    obtain rfl : i6 = true := H6.out.2 (tidy_has (app_vl VL.out.2 VM.out.2) T4.out (inR_app.2 (Or.inr I9.out)))
    obtain rfl : i7 = true := H7.out.2 (tidy_has (app_vl VM.out.2 VL.out.2) T5.out (inR_app.2 ((Or.inr I9.out).symm)))
    by_cases h32 : (32 : Int) < (L.length : Int) + (M.length : Int)
    · go_wp2_with fail
      go_ret
      exact ⟨rfl, GW0.trans G9⟩
    · go_wp2_with fail
      go_ret
      exact ⟨rfl, GW0.trans G9⟩
  have I8 : Hid (InR L x) := Lib.hid (H8.out.1 rfl)
  clear H8
  obtain rfl : i6 = true := H6.out.2 (tidy_has (app_vl VL.out.2 VM.out.2) T4.out (inR_app.2 (Or.inl I8.out)))
  obtain rfl : i7 = true := H7.out.2 (tidy_has (app_vl VM.out.2 VL.out.2) T5.out (inR_app.2 ((Or.inl I8.out).symm)))
  by_cases h32 : (32 : Int) < (L.length : Int) + (M.length : Int)
  · go_wp2_with fail
    go_ret
    exact ⟨rfl, GW0.trans G8⟩
  · go_wp2_with fail
    go_ret
    exact ⟨rfl, GW0.trans G8⟩
end Rg
end Go.Proofs.YtlookcbokhknfaaGreat
