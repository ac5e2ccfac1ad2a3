/-
  The law MinkOrder, under what package mink owes.
-/
import Derived.Test.YteglefjnbkocgaaMinkUse
namespace Go.Proofs.Yteglefjnbkocgaa
open Go.RowKit Hl
namespace Mk
set_option maxRecDepth 100000 in
set_option maxHeartbeats 4000000 in
theorem order_1 (F : Code) (p q r : List Pt) (a b c : Option Addr) (l m n : Nat) (w : World) (P : Hid (Sl w (.slice a p.length l) p)) (Q : Hid (Sl w (.slice b q.length m) q)) (R : Hid (Sl w (.slice c r.length n) r)) (LP : Hid (p.length ≤ 9223372036854775807)) (LQ : Hid (q.length ≤ 9223372036854775807)) (_LR : Hid (r.length ≤ 9223372036854775807)) (VN : Hid (¬ (Vl p ∧ Vl q))) : Calls Try.prog 6 #[.slice a p.length l, .slice b q.length m, .slice c r.length n] w fun e w' => e = .returned (.bool true) ∧ Grew w w' := by
  have P0 := P
  have Q0 := Q
  have R0 := R
  go_enter Try.func6, Try.ntmps6
  go_wp2_with fail
  refine (head_true F _).mono ?_
  rintro e w1 ⟨rfl, g1⟩
  have D1 : Grew w w1 := Grew.trans (by (repeat' (first | (with_reducible exact Grew.refl _) | (with_reducible assumption) | (with_reducible refine Grew.alloc ?_ _ _) | (with_reducible refine Grew.drew ?_) | (with_reducible refine Grew.drewN ?_ _) | (with_reducible refine Grew.setCell ?_ ?_ _) | go_size))) g1
  have G1 : Grew w w1 := D1
  have P1 := Lib.hid (P0.out.grown D1)
  have Q1 := Lib.hid (Q0.out.grown D1)
  have R1 := Lib.hid (R0.out.grown D1)
  clear P0 Q0 R0
  clear g1 D1
  go_wp2_with fail
  refine (use_no p q _ _ _ P1.out Q1.out LP.out LQ.out VN.out).mono ?_
  rintro e w2 ⟨rfl, g2⟩
  have D2 : Grew w1 w2 := Grew.trans (by (repeat' (first | (with_reducible exact Grew.refl _) | (with_reducible assumption) | (with_reducible refine Grew.alloc ?_ _ _) | (with_reducible refine Grew.drew ?_) | (with_reducible refine Grew.drewN ?_ _) | (with_reducible refine Grew.setCell ?_ ?_ _) | go_size))) g2
  have G2 : Grew w w2 := Grew.trans G1 D2
  have P2 := Lib.hid (P1.out.grown D2)
  have Q2 := Lib.hid (Q1.out.grown D2)
  have R2 := Lib.hid (R1.out.grown D2)
  clear P1 Q1 R1
  clear g2 D2 G1
  go_wp2_with fail
  go_ret
  exact ⟨rfl, G2⟩
set_option maxRecDepth 100000 in
set_option maxHeartbeats 4000000 in
theorem order_2 (F : Code) (p q r : List Pt) (a b c : Option Addr) (l m n : Nat) (w : World) (P : Hid (Sl w (.slice a p.length l) p)) (Q : Hid (Sl w (.slice b q.length m) q)) (R : Hid (Sl w (.slice c r.length n) r)) (LP : Hid (p.length ≤ 9223372036854775807)) (LQ : Hid (q.length ≤ 9223372036854775807)) (LR : Hid (r.length ≤ 9223372036854775807)) (VP : Hid (Vl p)) (VQ : Hid (Vl q)) (VN : Hid (¬ Vl r)) : Calls Try.prog 6 #[.slice a p.length l, .slice b q.length m, .slice c r.length n] w fun e w' => e = .returned (.bool true) ∧ Grew w w' := by
  have P0 := P
  have Q0 := Q
  have R0 := R
  go_enter Try.func6, Try.ntmps6
  go_wp2_with fail
  refine (head_true F _).mono ?_
  rintro e w1 ⟨rfl, g1⟩
  have D1 : Grew w w1 := Grew.trans (by (repeat' (first | (with_reducible exact Grew.refl _) | (with_reducible assumption) | (with_reducible refine Grew.alloc ?_ _ _) | (with_reducible refine Grew.drew ?_) | (with_reducible refine Grew.drewN ?_ _) | (with_reducible refine Grew.setCell ?_ ?_ _) | go_size))) g1
  have G1 : Grew w w1 := D1
  have P1 := Lib.hid (P0.out.grown D1)
  have Q1 := Lib.hid (Q0.out.grown D1)
  have R1 := Lib.hid (R0.out.grown D1)
  clear P0 Q0 R0
  clear g1 D1
  go_wp2_with fail
  refine (use_yes p q _ _ _ P1.out Q1.out LP.out LQ.out VP.out VQ.out).mono ?_
  rintro e w2 ⟨rfl, g2⟩
  have D2 : Grew w1 w2 := Grew.trans (by (repeat' (first | (with_reducible exact Grew.refl _) | (with_reducible assumption) | (with_reducible refine Grew.alloc ?_ _ _) | (with_reducible refine Grew.drew ?_) | (with_reducible refine Grew.drewN ?_ _) | (with_reducible refine Grew.setCell ?_ ?_ _) | go_size))) g2
  have G2 : Grew w w2 := Grew.trans G1 D2
  have P2 := Lib.hid (P1.out.grown D2)
  have Q2 := Lib.hid (Q1.out.grown D2)
  have R2 := Lib.hid (R1.out.grown D2)
  clear P1 Q1 R1
  clear g2 D2 G1
  go_wp2_with fail
  refine ((rvalid_any r _ _ R2.out LR.out).mono fun _ _ t => t.un VN.out).mono ?_
  rintro e w3 ⟨rfl, g3⟩
  have D3 : Grew w2 w3 := Grew.trans (by (repeat' (first | (with_reducible exact Grew.refl _) | (with_reducible assumption) | (with_reducible refine Grew.alloc ?_ _ _) | (with_reducible refine Grew.drew ?_) | (with_reducible refine Grew.drewN ?_ _) | (with_reducible refine Grew.setCell ?_ ?_ _) | go_size))) g3
  have G3 : Grew w w3 := Grew.trans G2 D3
  have P3 := Lib.hid (P2.out.grown D3)
  have Q3 := Lib.hid (Q2.out.grown D3)
  have R3 := Lib.hid (R2.out.grown D3)
  clear P2 Q2 R2
  clear g3 D3 G2
  go_wp2_with fail
  go_ret
  exact ⟨rfl, G3⟩
set_option maxRecDepth 100000 in
set_option maxHeartbeats 4000000 in
theorem order_3 (F : Code) (p q r : List Pt) (a b c : Option Addr) (l m n : Nat) (w : World) (P : Hid (Sl w (.slice a p.length l) p)) (Q : Hid (Sl w (.slice b q.length m) q)) (R : Hid (Sl w (.slice c r.length n) r)) (LP : Hid (p.length ≤ 9223372036854775807)) (LQ : Hid (q.length ≤ 9223372036854775807)) (LR : Hid (r.length ≤ 9223372036854775807)) (VP : Hid (Vl p)) (VQ : Hid (Vl q)) (VR : Hid (Vl r)) (b1 : (p.length : Int) ≤ 64) (b2 : (q.length : Int) ≤ 64) (b3 : (r.length : Int) ≤ 64) (b4 : (64 : Int) < (p.length : Int) + (q.length : Int) + (r.length : Int)) : Calls Try.prog 6 #[.slice a p.length l, .slice b q.length m, .slice c r.length n] w fun e w' => e = .returned (.bool true) ∧ Grew w w' := by
  have P0 := P
  have Q0 := Q
  have R0 := R
  go_enter Try.func6, Try.ntmps6
  go_wp2_with fail
  refine (head_true F _).mono ?_
  rintro e w1 ⟨rfl, g1⟩
  have D1 : Grew w w1 := Grew.trans (by (repeat' (first | (with_reducible exact Grew.refl _) | (with_reducible assumption) | (with_reducible refine Grew.alloc ?_ _ _) | (with_reducible refine Grew.drew ?_) | (with_reducible refine Grew.drewN ?_ _) | (with_reducible refine Grew.setCell ?_ ?_ _) | go_size))) g1
  have G1 : Grew w w1 := D1
  have P1 := Lib.hid (P0.out.grown D1)
  have Q1 := Lib.hid (Q0.out.grown D1)
  have R1 := Lib.hid (R0.out.grown D1)
  clear P0 Q0 R0
  clear g1 D1
  go_wp2_with fail
  refine (use_yes p q _ _ _ P1.out Q1.out LP.out LQ.out VP.out VQ.out).mono ?_
  rintro e w2 ⟨rfl, g2⟩
  have D2 : Grew w1 w2 := Grew.trans (by (repeat' (first | (with_reducible exact Grew.refl _) | (with_reducible assumption) | (with_reducible refine Grew.alloc ?_ _ _) | (with_reducible refine Grew.drew ?_) | (with_reducible refine Grew.drewN ?_ _) | (with_reducible refine Grew.setCell ?_ ?_ _) | go_size))) g2
  have G2 : Grew w w2 := Grew.trans G1 D2
  have P2 := Lib.hid (P1.out.grown D2)
  have Q2 := Lib.hid (Q1.out.grown D2)
  have R2 := Lib.hid (R1.out.grown D2)
  clear P1 Q1 R1
  clear g2 D2 G1
  go_wp2_with fail
  refine ((rvalid_any r _ _ R2.out LR.out).mono fun _ _ t => t.to VR.out).mono ?_
  rintro e w3 ⟨rfl, g3⟩
  have D3 : Grew w2 w3 := Grew.trans (by (repeat' (first | (with_reducible exact Grew.refl _) | (with_reducible assumption) | (with_reducible refine Grew.alloc ?_ _ _) | (with_reducible refine Grew.drew ?_) | (with_reducible refine Grew.drewN ?_ _) | (with_reducible refine Grew.setCell ?_ ?_ _) | go_size))) g3
  have G3 : Grew w w3 := Grew.trans G2 D3
  have P3 := Lib.hid (P2.out.grown D3)
  have Q3 := Lib.hid (Q2.out.grown D3)
  have R3 := Lib.hid (R2.out.grown D3)
  clear P2 Q2 R2
  clear g3 D3 G2
  go_wp2_with fail
  go_ret
  exact ⟨rfl, G3⟩
set_option maxRecDepth 100000 in
set_option maxHeartbeats 4000000 in
theorem order_4 (F : Code) (p q r : List Pt) (a b c : Option Addr) (l m n : Nat) (w : World) (P : Hid (Sl w (.slice a p.length l) p)) (Q : Hid (Sl w (.slice b q.length m) q)) (R : Hid (Sl w (.slice c r.length n) r)) (LP : Hid (p.length ≤ 9223372036854775807)) (LQ : Hid (q.length ≤ 9223372036854775807)) (LR : Hid (r.length ≤ 9223372036854775807)) (VP : Hid (Vl p)) (VQ : Hid (Vl q)) (VR : Hid (Vl r)) (b1 : (p.length : Int) ≤ 64) (b2 : (q.length : Int) ≤ 64) (b3 : (r.length : Int) ≤ 64) (b4 : (p.length : Int) + (q.length : Int) + (r.length : Int) ≤ 64) (LEN : Hid (p.length + q.length + r.length ≤ 64)) : Calls Try.prog 6 #[.slice a p.length l, .slice b q.length m, .slice c r.length n] w fun e w' => e = .returned (.bool true) ∧ Grew w w' := by
  have P0 := P
  have Q0 := Q
  have R0 := R
  go_enter Try.func6, Try.ntmps6
  go_wp2_with fail
  refine (head_true F _).mono ?_
  rintro e w1 ⟨rfl, g1⟩
  have D1 : Grew w w1 := Grew.trans (by (repeat' (first | (with_reducible exact Grew.refl _) | (with_reducible assumption) | (with_reducible refine Grew.alloc ?_ _ _) | (with_reducible refine Grew.drew ?_) | (with_reducible refine Grew.drewN ?_ _) | (with_reducible refine Grew.setCell ?_ ?_ _) | go_size))) g1
  have G1 : Grew w w1 := D1
  have P1 := Lib.hid (P0.out.grown D1)
  have Q1 := Lib.hid (Q0.out.grown D1)
  have R1 := Lib.hid (R0.out.grown D1)
  clear P0 Q0 R0
  clear g1 D1
  go_wp2_with fail
  refine (use_yes p q _ _ _ P1.out Q1.out LP.out LQ.out VP.out VQ.out).mono ?_
  rintro e w2 ⟨rfl, g2⟩
  have D2 : Grew w1 w2 := Grew.trans (by (repeat' (first | (with_reducible exact Grew.refl _) | (with_reducible assumption) | (with_reducible refine Grew.alloc ?_ _ _) | (with_reducible refine Grew.drew ?_) | (with_reducible refine Grew.drewN ?_ _) | (with_reducible refine Grew.setCell ?_ ?_ _) | go_size))) g2
  have G2 : Grew w w2 := Grew.trans G1 D2
  have P2 := Lib.hid (P1.out.grown D2)
  have Q2 := Lib.hid (Q1.out.grown D2)
  have R2 := Lib.hid (R1.out.grown D2)
  clear P1 Q1 R1
  clear g2 D2 G1
  go_wp2_with fail
  refine ((rvalid_any r _ _ R2.out LR.out).mono fun _ _ t => t.to VR.out).mono ?_
  rintro e w3 ⟨rfl, g3⟩
  have D3 : Grew w2 w3 := Grew.trans (by (repeat' (first | (with_reducible exact Grew.refl _) | (with_reducible assumption) | (with_reducible refine Grew.alloc ?_ _ _) | (with_reducible refine Grew.drew ?_) | (with_reducible refine Grew.drewN ?_ _) | (with_reducible refine Grew.setCell ?_ ?_ _) | go_size))) g3
  have G3 : Grew w w3 := Grew.trans G2 D3
  have P3 := Lib.hid (P2.out.grown D3)
  have Q3 := Lib.hid (Q2.out.grown D3)
  have R3 := Lib.hid (R2.out.grown D3)
  clear P2 Q2 R2
  clear g3 D3 G2
  go_wp2_with fail
  refine (F.sum p q _ _ _ P3.out Q3.out LP.out LQ.out).mono ?_
  rintro e w4 ⟨v1, k1, r1, i1, rfl, s1, g4⟩
  have D4 : Grew w3 w4 := Grew.trans (by (repeat' (first | (with_reducible exact Grew.refl _) | (with_reducible assumption) | (with_reducible refine Grew.alloc ?_ _ _) | (with_reducible refine Grew.drew ?_) | (with_reducible refine Grew.drewN ?_ _) | (with_reducible refine Grew.setCell ?_ ?_ _) | go_size))) g4
  have G4 : Grew w w4 := Grew.trans G3 D4
  have P4 := Lib.hid (P3.out.grown D4)
  have Q4 := Lib.hid (Q3.out.grown D4)
  have R4 := Lib.hid (R3.out.grown D4)
  clear P3 Q3 R3
  clear g4 D4 G3
  have A4 := Lib.hid s1
  clear s1
  go_wp2_with fail
  refine (F.sum q p _ _ _ Q4.out P4.out LQ.out LP.out).mono ?_
  rintro e w5 ⟨v2, k2, r2, i2, rfl, s2, g5⟩
  have D5 : Grew w4 w5 := Grew.trans (by (repeat' (first | (with_reducible exact Grew.refl _) | (with_reducible assumption) | (with_reducible refine Grew.alloc ?_ _ _) | (with_reducible refine Grew.drew ?_) | (with_reducible refine Grew.drewN ?_ _) | (with_reducible refine Grew.setCell ?_ ?_ _) | go_size))) g5
  have G5 : Grew w w5 := Grew.trans G4 D5
  have P5 := Lib.hid (P4.out.grown D5)
  have Q5 := Lib.hid (Q4.out.grown D5)
  have R5 := Lib.hid (R4.out.grown D5)
  have A5 := Lib.hid (A4.out.grown D5)
  clear P4 Q4 R4 A4
  clear g5 D5 G4
  have B5 := Lib.hid s2
  clear s2
  obtain ⟨rfl, rfl⟩ := i1.one i2.comm
  clear i2
  go_wp2_with fail
  refine (h_same r1 _ _ _ A5.out B5.out (by have := i1.few; omega)).mono ?_
  rintro e w6 ⟨rfl, g6⟩
  have D6 : Grew w5 w6 := Grew.trans (by (repeat' (first | (with_reducible exact Grew.refl _) | (with_reducible assumption) | (with_reducible refine Grew.alloc ?_ _ _) | (with_reducible refine Grew.drew ?_) | (with_reducible refine Grew.drewN ?_ _) | (with_reducible refine Grew.setCell ?_ ?_ _) | go_size))) g6
  have G6 : Grew w w6 := Grew.trans G5 D6
  have P6 := Lib.hid (P5.out.grown D6)
  have Q6 := Lib.hid (Q5.out.grown D6)
  have R6 := Lib.hid (R5.out.grown D6)
  have A6 := Lib.hid (A5.out.grown D6)
  have B6 := Lib.hid (B5.out.grown D6)
  clear P5 Q5 R5 A5 B5
  clear g6 D6 G5
  clear B6
  go_wp2_with fail
  refine (F.sum q r _ _ _ Q6.out R6.out LQ.out LR.out).mono ?_
  rintro e w7 ⟨v3, k3, r3, i3, rfl, s3, g7⟩
  have D7 : Grew w6 w7 := Grew.trans (by (repeat' (first | (with_reducible exact Grew.refl _) | (with_reducible assumption) | (with_reducible refine Grew.alloc ?_ _ _) | (with_reducible refine Grew.drew ?_) | (with_reducible refine Grew.drewN ?_ _) | (with_reducible refine Grew.setCell ?_ ?_ _) | go_size))) g7
  have G7 : Grew w w7 := Grew.trans G6 D7
  have P7 := Lib.hid (P6.out.grown D7)
  have Q7 := Lib.hid (Q6.out.grown D7)
  have R7 := Lib.hid (R6.out.grown D7)
  have A7 := Lib.hid (A6.out.grown D7)
  clear P6 Q6 R6 A6
  clear g7 D7 G6
  have C7 := Lib.hid s3
  clear s3
  have I1 := Lib.hid i1
  have I3 := Lib.hid i3
  have hk : (k1 = 0 ∧ k3 = 0) ∨ (k1 = 3 ∨ (k1 = 0 ∧ k3 = 3)) := by
    rcases sum_keys i1 ⟨VP.out, VQ.out⟩ with e | ⟨e, _⟩ <;> rcases sum_keys i3 ⟨VQ.out, VR.out⟩ with e' | ⟨e', _⟩ <;> omega
  clear i1 i3
  rcases hk with ⟨rfl, rfl⟩ | rfl | ⟨rfl, rfl⟩
  · go_wp2_with fail
    refine (F.sum r1 r _ _ _ A7.out R7.out (by have := I1.out.few; omega) LR.out).mono ?_
    rintro e w8 ⟨v4, k4, r4, i4, rfl, s4, g8⟩
    have D8 : Grew w7 w8 := Grew.trans (by (repeat' (first | (with_reducible exact Grew.refl _) | (with_reducible assumption) | (with_reducible refine Grew.alloc ?_ _ _) | (with_reducible refine Grew.drew ?_) | (with_reducible refine Grew.drewN ?_ _) | (with_reducible refine Grew.setCell ?_ ?_ _) | go_size))) g8
    have G8 : Grew w w8 := Grew.trans G7 D8
    have P8 := Lib.hid (P7.out.grown D8)
    have Q8 := Lib.hid (Q7.out.grown D8)
    have R8 := Lib.hid (R7.out.grown D8)
    have A8 := Lib.hid (A7.out.grown D8)
    have C8 := Lib.hid (C7.out.grown D8)
    clear P7 Q7 R7 A7 C7
    clear g8 D8 G7
    have U8 := Lib.hid s4
    clear s4
    go_wp2_with fail
    refine (F.sum p r3 _ _ _ P8.out C8.out LP.out (by have := I3.out.few; omega)).mono ?_
    rintro e w9 ⟨v5, k5, r5, i5, rfl, s5, g9⟩
    have D9 : Grew w8 w9 := Grew.trans (by (repeat' (first | (with_reducible exact Grew.refl _) | (with_reducible assumption) | (with_reducible refine Grew.alloc ?_ _ _) | (with_reducible refine Grew.drew ?_) | (with_reducible refine Grew.drewN ?_ _) | (with_reducible refine Grew.setCell ?_ ?_ _) | go_size))) g9
    have G9 : Grew w w9 := Grew.trans G8 D9
    have P9 := Lib.hid (P8.out.grown D9)
    have Q9 := Lib.hid (Q8.out.grown D9)
    have R9 := Lib.hid (R8.out.grown D9)
    have A9 := Lib.hid (A8.out.grown D9)
    have C9 := Lib.hid (C8.out.grown D9)
    have U9 := Lib.hid (U8.out.grown D9)
    clear P8 Q8 R8 A8 C8 U8
    clear g9 D9 G8
    have V9 := Lib.hid s5
    clear s5
    obtain ⟨rfl, rfl⟩ := order_law VP.out VQ.out VR.out LEN.out I1.out I3.out i4 i5
    clear i5
    go_wp2_with fail
    refine (h_same r4 _ _ _ U9.out V9.out (by have := i4.few; omega)).mono ?_
    rintro e w10 ⟨rfl, g10⟩
    have D10 : Grew w9 w10 := Grew.trans (by (repeat' (first | (with_reducible exact Grew.refl _) | (with_reducible assumption) | (with_reducible refine Grew.alloc ?_ _ _) | (with_reducible refine Grew.drew ?_) | (with_reducible refine Grew.drewN ?_ _) | (with_reducible refine Grew.setCell ?_ ?_ _) | go_size))) g10
    have G10 : Grew w w10 := Grew.trans G9 D10
    have P10 := Lib.hid (P9.out.grown D10)
    have Q10 := Lib.hid (Q9.out.grown D10)
    have R10 := Lib.hid (R9.out.grown D10)
    have A10 := Lib.hid (A9.out.grown D10)
    have C10 := Lib.hid (C9.out.grown D10)
    have U10 := Lib.hid (U9.out.grown D10)
    have V10 := Lib.hid (V9.out.grown D10)
    clear P9 Q9 R9 A9 C9 U9 V9
    clear g10 D10 G9
    go_wp2_with fail
    go_ret
    exact ⟨rfl, G10⟩
  · go_wp2_with fail
    go_ret
    exact ⟨rfl, G7⟩
  · go_wp2_with fail
    go_ret
    exact ⟨rfl, G7⟩
theorem order_true (F : Code) (p q r : List Pt) (v u z : Value) (w : World) (hs : Sl w v p) (hu : Sl w u q) (hz : Sl w z r) (h1 : p.length ≤ 9223372036854775807) (h2 : q.length ≤ 9223372036854775807) (h3 : r.length ≤ 9223372036854775807) : Calls Try.prog 6 #[v, u, z] w fun e w' => e = .returned (.bool true) ∧ Grew w w' := by
  obtain ⟨a, l, rfl⟩ := hs.shape
  obtain ⟨b, m, rfl⟩ := hu.shape
  obtain ⟨c, n, rfl⟩ := hz.shape
  have P := Lib.hid hs
  have Q := Lib.hid hu
  have R := Lib.hid hz
  have LP := Lib.hid h1
  have LQ := Lib.hid h2
  have LR := Lib.hid h3
  by_cases hv : Vl p ∧ Vl q
  · by_cases hr : Vl r
    · have b1 := hv.1.1.2
      have b2 := hv.2.1.2
      have b3 := hr.1.2
      by_cases hl : p.length + q.length + r.length ≤ 64
      · exact order_4 F p q r a b c l m n w P Q R LP LQ LR (Lib.hid hv.1) (Lib.hid hv.2) (Lib.hid hr) (by omega) (by omega) (by omega) (by omega) (Lib.hid hl)
      · exact order_3 F p q r a b c l m n w P Q R LP LQ LR (Lib.hid hv.1) (Lib.hid hv.2) (Lib.hid hr) (by omega) (by omega) (by omega) (by omega)
    · exact order_2 F p q r a b c l m n w P Q R LP LQ LR (Lib.hid hv.1) (Lib.hid hv.2) (Lib.hid hr)
  · exact order_1 F p q r a b c l m n w P Q R LP LQ LR (Lib.hid hv)
end Mk
end Go.Proofs.Yteglefjnbkocgaa
