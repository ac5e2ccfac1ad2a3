/-
  The law HullBoxes, under what package hull owes.
-/
import Derived.Test.YthcfbfgfpophmaaHullSm
import Derived.Test.YthcfbfgfpophmaaHullOct
namespace Go.Proofs.Ythcfbfgfpophmaa
open Go.RowKit
namespace Hl

set_option maxRecDepth 100000 in
set_option maxHeartbeats 4000000 in
theorem boxes_far (K : Code) (p : List Pt) (x : Pt) (v : Value) (w : World) (HS : Hid (Sl w v p)) (H : Hid (p.length ≤ 80)) (V : Hid (Vl p)) (X : Hid (¬ Plc x)) : Calls Try.prog 7 #[v, .agg #[.int .i64 x.1, .int .i64 x.2]] w fun e w' => e = .returned (.bool true) ∧ Grew w w' := by
  go_enter Try.func7, Try.ntmps7
  go_wp2_with fail
  refine (head_true K _).mono ?_
  rintro e w1 ⟨rfl, g1⟩
  obtain ⟨c1, f1, z1⟩ := laid g1
  try simp at z1
  have G1 : Grew w w1 := Grew.trans (by (repeat' (first | (with_reducible exact Grew.refl _) | (with_reducible assumption) | (with_reducible refine Grew.alloc ?_ _ _) | (with_reducible refine Grew.drew ?_) | (with_reducible refine Grew.drewN ?_ _) | (with_reducible refine Grew.setCell ?_ ?_ _) | go_size))) g1
  clear g1
  have z1_0 : w.heap.size < w1.heap.size := by omega
  have z1_0a : w.heap.size < w1.heap.size + 1 := by omega
  have z1_0b : w.heap.size < w1.heap.size + 1 + 1 := by omega
  go_wp2_with fail
  refine (few_yes p v _ (HS.out.grown (by (repeat' (first | (with_reducible exact Grew.refl _) | (with_reducible assumption) | (with_reducible refine Grew.alloc ?_ _ _) | (with_reducible refine Grew.drew ?_) | (with_reducible refine Grew.drewN ?_ _) | (with_reducible refine Grew.setCell ?_ ?_ _) | go_size)))) H.out).mono ?_
  rintro e w2 ⟨rfl, g2⟩
  obtain ⟨c2, f2, z2⟩ := laid g2
  try simp at z2
  have G2 : Grew w w2 := Grew.trans (by (repeat' (first | (with_reducible exact Grew.refl _) | (with_reducible assumption) | (with_reducible refine Grew.alloc ?_ _ _) | (with_reducible refine Grew.drew ?_) | (with_reducible refine Grew.drewN ?_ _) | (with_reducible refine Grew.setCell ?_ ?_ _) | go_size))) g2
  clear g2
  have z2_0 : w.heap.size < w2.heap.size := by omega
  have z2_0a : w.heap.size < w2.heap.size + 1 := by omega
  have z2_0b : w.heap.size < w2.heap.size + 1 + 1 := by omega
  go_wp2_with fail
  refine (rvalid_yes p v _ (HS.out.grown (by (repeat' (first | (with_reducible exact Grew.refl _) | (with_reducible assumption) | (with_reducible refine Grew.alloc ?_ _ _) | (with_reducible refine Grew.drew ?_) | (with_reducible refine Grew.drewN ?_ _) | (with_reducible refine Grew.setCell ?_ ?_ _) | go_size)))) H.out V.out).mono ?_
  rintro e w3 ⟨rfl, g3⟩
  obtain ⟨c3, f3, z3⟩ := laid g3
  try simp at z3
  have G3 : Grew w w3 := Grew.trans (by (repeat' (first | (with_reducible exact Grew.refl _) | (with_reducible assumption) | (with_reducible refine Grew.alloc ?_ _ _) | (with_reducible refine Grew.drew ?_) | (with_reducible refine Grew.drewN ?_ _) | (with_reducible refine Grew.setCell ?_ ?_ _) | go_size))) g3
  clear g3
  have z3_0 : w.heap.size < w3.heap.size := by omega
  have z3_0a : w.heap.size < w3.heap.size + 1 := by omega
  have z3_0b : w.heap.size < w3.heap.size + 1 + 1 := by omega
  go_wp2_with fail
  refine (K.box_ok p v _ (HS.out.grown (by (repeat' (first | (with_reducible exact Grew.refl _) | (with_reducible assumption) | (with_reducible refine Grew.alloc ?_ _ _) | (with_reducible refine Grew.drew ?_) | (with_reducible refine Grew.drewN ?_ _) | (with_reducible refine Grew.setCell ?_ ?_ _) | go_size)))) V.out).mono ?_
  rintro e w4 ⟨lo, hi, hb, rfl, g4⟩
  have HB := Lib.hid hb
  clear hb
  obtain ⟨c4, f4, z4⟩ := laid g4
  try simp at z4
  have G4 : Grew w w4 := Grew.trans (by (repeat' (first | (with_reducible exact Grew.refl _) | (with_reducible assumption) | (with_reducible refine Grew.alloc ?_ _ _) | (with_reducible refine Grew.drew ?_) | (with_reducible refine Grew.drewN ?_ _) | (with_reducible refine Grew.setCell ?_ ?_ _) | go_size))) g4
  clear g4
  have z4_0 : w.heap.size < w4.heap.size := by omega
  have z4_0a : w.heap.size < w4.heap.size + 1 := by omega
  have z4_0b : w.heap.size < w4.heap.size + 1 + 1 := by omega
  go_wp2_with fail
  refine (K.eight_ok p v _ (HS.out.grown (by (repeat' (first | (with_reducible exact Grew.refl _) | (with_reducible assumption) | (with_reducible refine Grew.alloc ?_ _ _) | (with_reducible refine Grew.drew ?_) | (with_reducible refine Grew.drewN ?_ _) | (with_reducible refine Grew.setCell ?_ ?_ _) | go_size)))) V.out).mono ?_
  rintro e w5 ⟨q, v5, ho, rfl, hq, g5⟩
  have OF := Lib.hid (oct_facts V.out ho)
  clear ho
  obtain ⟨b5, o5, n5, rfl, hrow⟩ := hq.row (fun e => by have := OF.out.1.1.1; rw [e] at this; exact absurd this (by decide))
  clear hq
  have q_5 := Sl.of (c := n5) hrow
  clear hrow
  have Q8 : (q.length : Int) ≤ 8 := by have := OF.out.2.1; omega
  obtain ⟨c5, f5, z5⟩ := laid g5
  try simp at z5
  have G5 : Grew w w5 := Grew.trans (by (repeat' (first | (with_reducible exact Grew.refl _) | (with_reducible assumption) | (with_reducible refine Grew.alloc ?_ _ _) | (with_reducible refine Grew.drew ?_) | (with_reducible refine Grew.drewN ?_ _) | (with_reducible refine Grew.setCell ?_ ?_ _) | go_size))) g5
  clear g5
  have z5_0 : w.heap.size < w5.heap.size := by omega
  have z5_0a : w.heap.size < w5.heap.size + 1 := by omega
  have z5_0b : w.heap.size < w5.heap.size + 1 + 1 := by omega
  have z5_1 : w4.heap.size < w5.heap.size := by omega
  have z5_1a : w4.heap.size < w5.heap.size + 1 := by omega
  have z5_1b : w4.heap.size < w5.heap.size + 1 + 1 := by omega
  have z5_2 : w4.heap.size + 1 < w5.heap.size := by omega
  have z5_2a : w4.heap.size + 1 < w5.heap.size + 1 := by omega
  have z5_2b : w4.heap.size + 1 < w5.heap.size + 1 + 1 := by omega
  go_wp2_with fail
  refine (K.eight_ok q _ _ (q_5.grown (by (repeat' (first | (with_reducible exact Grew.refl _) | (with_reducible assumption) | (with_reducible refine Grew.alloc ?_ _ _) | (with_reducible refine Grew.drew ?_) | (with_reducible refine Grew.drewN ?_ _) | (with_reducible refine Grew.setCell ?_ ?_ _) | go_size)))) OF.out.1).mono ?_
  rintro e w6 ⟨r, v6, ho, rfl, r_6, g6⟩
  obtain rfl := OF.out.2.2.1 r ho
  clear ho
  have q_6 := q_5.grown (Grew.trans (a := w5) (by (repeat' (first | (with_reducible exact Grew.refl _) | (with_reducible assumption) | (with_reducible refine Grew.alloc ?_ _ _) | (with_reducible refine Grew.drew ?_) | (with_reducible refine Grew.drewN ?_ _) | (with_reducible refine Grew.setCell ?_ ?_ _) | go_size))) g6)
  obtain ⟨c6, f6, z6⟩ := laid g6
  try simp at z6
  have G6 : Grew w w6 := Grew.trans (by (repeat' (first | (with_reducible exact Grew.refl _) | (with_reducible assumption) | (with_reducible refine Grew.alloc ?_ _ _) | (with_reducible refine Grew.drew ?_) | (with_reducible refine Grew.drewN ?_ _) | (with_reducible refine Grew.setCell ?_ ?_ _) | go_size))) g6
  clear g6
  have z6_0 : w.heap.size < w6.heap.size := by omega
  have z6_0a : w.heap.size < w6.heap.size + 1 := by omega
  have z6_0b : w.heap.size < w6.heap.size + 1 + 1 := by omega
  have z6_1 : w4.heap.size < w6.heap.size := by omega
  have z6_1a : w4.heap.size < w6.heap.size + 1 := by omega
  have z6_1b : w4.heap.size < w6.heap.size + 1 + 1 := by omega
  have z6_2 : w4.heap.size + 1 < w6.heap.size := by omega
  have z6_2a : w4.heap.size + 1 < w6.heap.size + 1 := by omega
  have z6_2b : w4.heap.size + 1 < w6.heap.size + 1 + 1 := by omega
  go_wp2_with fail
  refine (K.box_ok r _ _ (q_6.grown (by (repeat' (first | (with_reducible exact Grew.refl _) | (with_reducible assumption) | (with_reducible refine Grew.alloc ?_ _ _) | (with_reducible refine Grew.drew ?_) | (with_reducible refine Grew.drewN ?_ _) | (with_reducible refine Grew.setCell ?_ ?_ _) | go_size)))) OF.out.1).mono ?_
  rintro e w7 ⟨lo', hi', hb', rfl, g7⟩
  obtain ⟨rfl, rfl⟩ := OF.out.2.2.2.2 lo hi lo' hi' HB.out hb'; have BR := Lib.hid hb'
  clear hb'
  have q_7 := q_6.grown (Grew.trans (a := w6) (by (repeat' (first | (with_reducible exact Grew.refl _) | (with_reducible assumption) | (with_reducible refine Grew.alloc ?_ _ _) | (with_reducible refine Grew.drew ?_) | (with_reducible refine Grew.drewN ?_ _) | (with_reducible refine Grew.setCell ?_ ?_ _) | go_size))) g7)
  have r_7 := r_6.grown (Grew.trans (a := w6) (by (repeat' (first | (with_reducible exact Grew.refl _) | (with_reducible assumption) | (with_reducible refine Grew.alloc ?_ _ _) | (with_reducible refine Grew.drew ?_) | (with_reducible refine Grew.drewN ?_ _) | (with_reducible refine Grew.setCell ?_ ?_ _) | go_size))) g7)
  obtain ⟨c7, f7, z7⟩ := laid g7
  try simp at z7
  have G7 : Grew w w7 := Grew.trans (by (repeat' (first | (with_reducible exact Grew.refl _) | (with_reducible assumption) | (with_reducible refine Grew.alloc ?_ _ _) | (with_reducible refine Grew.drew ?_) | (with_reducible refine Grew.drewN ?_ _) | (with_reducible refine Grew.setCell ?_ ?_ _) | go_size))) g7
  clear g7
  have z7_0 : w.heap.size < w7.heap.size := by omega
  have z7_0a : w.heap.size < w7.heap.size + 1 := by omega
  have z7_0b : w.heap.size < w7.heap.size + 1 + 1 := by omega
  have z7_1 : w4.heap.size < w7.heap.size := by omega
  have z7_1a : w4.heap.size < w7.heap.size + 1 := by omega
  have z7_1b : w4.heap.size < w7.heap.size + 1 + 1 := by omega
  have z7_2 : w4.heap.size + 1 < w7.heap.size := by omega
  have z7_2a : w4.heap.size + 1 < w7.heap.size + 1 := by omega
  have z7_2b : w4.heap.size + 1 < w7.heap.size + 1 + 1 := by omega
  go_wp2_with fail
  refine ((K.valid r _ _ (q_7.grown (by (repeat' (first | (with_reducible exact Grew.refl _) | (with_reducible assumption) | (with_reducible refine Grew.alloc ?_ _ _) | (with_reducible refine Grew.drew ?_) | (with_reducible refine Grew.drewN ?_ _) | (with_reducible refine Grew.setCell ?_ ?_ _) | go_size)))) (by omega)).mono fun _ _ t => t.to OF.out.1).mono ?_
  rintro e w8 ⟨rfl, g8⟩
  have q_8 := q_7.grown (Grew.trans (a := w7) (by (repeat' (first | (with_reducible exact Grew.refl _) | (with_reducible assumption) | (with_reducible refine Grew.alloc ?_ _ _) | (with_reducible refine Grew.drew ?_) | (with_reducible refine Grew.drewN ?_ _) | (with_reducible refine Grew.setCell ?_ ?_ _) | go_size))) g8)
  have r_8 := r_7.grown (Grew.trans (a := w7) (by (repeat' (first | (with_reducible exact Grew.refl _) | (with_reducible assumption) | (with_reducible refine Grew.alloc ?_ _ _) | (with_reducible refine Grew.drew ?_) | (with_reducible refine Grew.drewN ?_ _) | (with_reducible refine Grew.setCell ?_ ?_ _) | go_size))) g8)
  obtain ⟨c8, f8, z8⟩ := laid g8
  try simp at z8
  have G8 : Grew w w8 := Grew.trans (by (repeat' (first | (with_reducible exact Grew.refl _) | (with_reducible assumption) | (with_reducible refine Grew.alloc ?_ _ _) | (with_reducible refine Grew.drew ?_) | (with_reducible refine Grew.drewN ?_ _) | (with_reducible refine Grew.setCell ?_ ?_ _) | go_size))) g8
  clear g8
  have z8_0 : w.heap.size < w8.heap.size := by omega
  have z8_0a : w.heap.size < w8.heap.size + 1 := by omega
  have z8_0b : w.heap.size < w8.heap.size + 1 + 1 := by omega
  have z8_1 : w4.heap.size < w8.heap.size := by omega
  have z8_1a : w4.heap.size < w8.heap.size + 1 := by omega
  have z8_1b : w4.heap.size < w8.heap.size + 1 + 1 := by omega
  have z8_2 : w4.heap.size + 1 < w8.heap.size := by omega
  have z8_2a : w4.heap.size + 1 < w8.heap.size + 1 := by omega
  have z8_2b : w4.heap.size + 1 < w8.heap.size + 1 + 1 := by omega
  have z8_3 : w7.heap.size < w8.heap.size := by omega
  have z8_3a : w7.heap.size < w8.heap.size + 1 := by omega
  have z8_3b : w7.heap.size < w8.heap.size + 1 + 1 := by omega
  have z8_4 : w7.heap.size + 1 < w8.heap.size := by omega
  have z8_4a : w7.heap.size + 1 < w8.heap.size + 1 := by omega
  have z8_4b : w7.heap.size + 1 < w8.heap.size + 1 + 1 := by omega
  go_wp2_with fail
  refine ((same_any r r _ _ _ (r_8.grown (by (repeat' (first | (with_reducible exact Grew.refl _) | (with_reducible assumption) | (with_reducible refine Grew.alloc ?_ _ _) | (with_reducible refine Grew.drew ?_) | (with_reducible refine Grew.drewN ?_ _) | (with_reducible refine Grew.setCell ?_ ?_ _) | go_size)))) (q_8.grown (by (repeat' (first | (with_reducible exact Grew.refl _) | (with_reducible assumption) | (with_reducible refine Grew.alloc ?_ _ _) | (with_reducible refine Grew.drew ?_) | (with_reducible refine Grew.drewN ?_ _) | (with_reducible refine Grew.setCell ?_ ?_ _) | go_size)))) (by omega)).mono fun _ _ t => t.to rfl).mono ?_
  rintro e w9 ⟨rfl, g9⟩
  have q_9 := q_8.grown (Grew.trans (a := w8) (by (repeat' (first | (with_reducible exact Grew.refl _) | (with_reducible assumption) | (with_reducible refine Grew.alloc ?_ _ _) | (with_reducible refine Grew.drew ?_) | (with_reducible refine Grew.drewN ?_ _) | (with_reducible refine Grew.setCell ?_ ?_ _) | go_size))) g9)
  have r_9 := r_8.grown (Grew.trans (a := w8) (by (repeat' (first | (with_reducible exact Grew.refl _) | (with_reducible assumption) | (with_reducible refine Grew.alloc ?_ _ _) | (with_reducible refine Grew.drew ?_) | (with_reducible refine Grew.drewN ?_ _) | (with_reducible refine Grew.setCell ?_ ?_ _) | go_size))) g9)
  obtain ⟨c9, f9, z9⟩ := laid g9
  try simp at z9
  have G9 : Grew w w9 := Grew.trans (by (repeat' (first | (with_reducible exact Grew.refl _) | (with_reducible assumption) | (with_reducible refine Grew.alloc ?_ _ _) | (with_reducible refine Grew.drew ?_) | (with_reducible refine Grew.drewN ?_ _) | (with_reducible refine Grew.setCell ?_ ?_ _) | go_size))) g9
  clear g9
  have z9_0 : w.heap.size < w9.heap.size := by omega
  have z9_0a : w.heap.size < w9.heap.size + 1 := by omega
  have z9_0b : w.heap.size < w9.heap.size + 1 + 1 := by omega
  have z9_1 : w4.heap.size < w9.heap.size := by omega
  have z9_1a : w4.heap.size < w9.heap.size + 1 := by omega
  have z9_1b : w4.heap.size < w9.heap.size + 1 + 1 := by omega
  have z9_2 : w4.heap.size + 1 < w9.heap.size := by omega
  have z9_2a : w4.heap.size + 1 < w9.heap.size + 1 := by omega
  have z9_2b : w4.heap.size + 1 < w9.heap.size + 1 + 1 := by omega
  have z9_3 : w7.heap.size < w9.heap.size := by omega
  have z9_3a : w7.heap.size < w9.heap.size + 1 := by omega
  have z9_3b : w7.heap.size < w9.heap.size + 1 + 1 := by omega
  have z9_4 : w7.heap.size + 1 < w9.heap.size := by omega
  have z9_4a : w7.heap.size + 1 < w9.heap.size + 1 := by omega
  have z9_4b : w7.heap.size + 1 < w9.heap.size + 1 + 1 := by omega
  go_wp2_with fail
  refine (rplace_no x _ X.out).mono ?_
  rintro e w10 ⟨rfl, g10⟩
  have q_10 := q_9.grown (Grew.trans (a := w9) (by (repeat' (first | (with_reducible exact Grew.refl _) | (with_reducible assumption) | (with_reducible refine Grew.alloc ?_ _ _) | (with_reducible refine Grew.drew ?_) | (with_reducible refine Grew.drewN ?_ _) | (with_reducible refine Grew.setCell ?_ ?_ _) | go_size))) g10)
  have r_10 := r_9.grown (Grew.trans (a := w9) (by (repeat' (first | (with_reducible exact Grew.refl _) | (with_reducible assumption) | (with_reducible refine Grew.alloc ?_ _ _) | (with_reducible refine Grew.drew ?_) | (with_reducible refine Grew.drewN ?_ _) | (with_reducible refine Grew.setCell ?_ ?_ _) | go_size))) g10)
  obtain ⟨c10, f10, z10⟩ := laid g10
  try simp at z10
  have G10 : Grew w w10 := Grew.trans (by (repeat' (first | (with_reducible exact Grew.refl _) | (with_reducible assumption) | (with_reducible refine Grew.alloc ?_ _ _) | (with_reducible refine Grew.drew ?_) | (with_reducible refine Grew.drewN ?_ _) | (with_reducible refine Grew.setCell ?_ ?_ _) | go_size))) g10
  clear g10
  have z10_0 : w.heap.size < w10.heap.size := by omega
  have z10_0a : w.heap.size < w10.heap.size + 1 := by omega
  have z10_0b : w.heap.size < w10.heap.size + 1 + 1 := by omega
  have z10_1 : w4.heap.size < w10.heap.size := by omega
  have z10_1a : w4.heap.size < w10.heap.size + 1 := by omega
  have z10_1b : w4.heap.size < w10.heap.size + 1 + 1 := by omega
  have z10_2 : w4.heap.size + 1 < w10.heap.size := by omega
  have z10_2a : w4.heap.size + 1 < w10.heap.size + 1 := by omega
  have z10_2b : w4.heap.size + 1 < w10.heap.size + 1 + 1 := by omega
  have z10_3 : w7.heap.size < w10.heap.size := by omega
  have z10_3a : w7.heap.size < w10.heap.size + 1 := by omega
  have z10_3b : w7.heap.size < w10.heap.size + 1 + 1 := by omega
  have z10_4 : w7.heap.size + 1 < w10.heap.size := by omega
  have z10_4a : w7.heap.size + 1 < w10.heap.size + 1 := by omega
  have z10_4b : w7.heap.size + 1 < w10.heap.size + 1 + 1 := by omega
  go_wp2_with fail
  go_ret
  exact ⟨rfl, by (repeat' (first | (with_reducible exact Grew.refl _) | (with_reducible assumption) | (with_reducible refine Grew.alloc ?_ _ _) | (with_reducible refine Grew.drew ?_) | (with_reducible refine Grew.drewN ?_ _) | (with_reducible refine Grew.setCell ?_ ?_ _) | go_size))⟩

set_option maxRecDepth 100000 in
set_option maxHeartbeats 4000000 in
theorem boxes_in (K : Code) (p : List Pt) (x : Pt) (v : Value) (w : World) (HS : Hid (Sl w v p)) (H : Hid (p.length ≤ 80)) (V : Hid (Vl p)) (X : Hid (Plc x)) (A : Hid (Hs p x)) : Calls Try.prog 7 #[v, .agg #[.int .i64 x.1, .int .i64 x.2]] w fun e w' => e = .returned (.bool true) ∧ Grew w w' := by
  go_enter Try.func7, Try.ntmps7
  go_wp2_with fail
  refine (head_true K _).mono ?_
  rintro e w1 ⟨rfl, g1⟩
  obtain ⟨c1, f1, z1⟩ := laid g1
  try simp at z1
  have G1 : Grew w w1 := Grew.trans (by (repeat' (first | (with_reducible exact Grew.refl _) | (with_reducible assumption) | (with_reducible refine Grew.alloc ?_ _ _) | (with_reducible refine Grew.drew ?_) | (with_reducible refine Grew.drewN ?_ _) | (with_reducible refine Grew.setCell ?_ ?_ _) | go_size))) g1
  clear g1
  have z1_0 : w.heap.size < w1.heap.size := by omega
  have z1_0a : w.heap.size < w1.heap.size + 1 := by omega
  have z1_0b : w.heap.size < w1.heap.size + 1 + 1 := by omega
  go_wp2_with fail
  refine (few_yes p v _ (HS.out.grown (by (repeat' (first | (with_reducible exact Grew.refl _) | (with_reducible assumption) | (with_reducible refine Grew.alloc ?_ _ _) | (with_reducible refine Grew.drew ?_) | (with_reducible refine Grew.drewN ?_ _) | (with_reducible refine Grew.setCell ?_ ?_ _) | go_size)))) H.out).mono ?_
  rintro e w2 ⟨rfl, g2⟩
  obtain ⟨c2, f2, z2⟩ := laid g2
  try simp at z2
  have G2 : Grew w w2 := Grew.trans (by (repeat' (first | (with_reducible exact Grew.refl _) | (with_reducible assumption) | (with_reducible refine Grew.alloc ?_ _ _) | (with_reducible refine Grew.drew ?_) | (with_reducible refine Grew.drewN ?_ _) | (with_reducible refine Grew.setCell ?_ ?_ _) | go_size))) g2
  clear g2
  have z2_0 : w.heap.size < w2.heap.size := by omega
  have z2_0a : w.heap.size < w2.heap.size + 1 := by omega
  have z2_0b : w.heap.size < w2.heap.size + 1 + 1 := by omega
  go_wp2_with fail
  refine (rvalid_yes p v _ (HS.out.grown (by (repeat' (first | (with_reducible exact Grew.refl _) | (with_reducible assumption) | (with_reducible refine Grew.alloc ?_ _ _) | (with_reducible refine Grew.drew ?_) | (with_reducible refine Grew.drewN ?_ _) | (with_reducible refine Grew.setCell ?_ ?_ _) | go_size)))) H.out V.out).mono ?_
  rintro e w3 ⟨rfl, g3⟩
  obtain ⟨c3, f3, z3⟩ := laid g3
  try simp at z3
  have G3 : Grew w w3 := Grew.trans (by (repeat' (first | (with_reducible exact Grew.refl _) | (with_reducible assumption) | (with_reducible refine Grew.alloc ?_ _ _) | (with_reducible refine Grew.drew ?_) | (with_reducible refine Grew.drewN ?_ _) | (with_reducible refine Grew.setCell ?_ ?_ _) | go_size))) g3
  clear g3
  have z3_0 : w.heap.size < w3.heap.size := by omega
  have z3_0a : w.heap.size < w3.heap.size + 1 := by omega
  have z3_0b : w.heap.size < w3.heap.size + 1 + 1 := by omega
  go_wp2_with fail
  refine (K.box_ok p v _ (HS.out.grown (by (repeat' (first | (with_reducible exact Grew.refl _) | (with_reducible assumption) | (with_reducible refine Grew.alloc ?_ _ _) | (with_reducible refine Grew.drew ?_) | (with_reducible refine Grew.drewN ?_ _) | (with_reducible refine Grew.setCell ?_ ?_ _) | go_size)))) V.out).mono ?_
  rintro e w4 ⟨lo, hi, hb, rfl, g4⟩
  have HB := Lib.hid hb
  clear hb
  obtain ⟨c4, f4, z4⟩ := laid g4
  try simp at z4
  have G4 : Grew w w4 := Grew.trans (by (repeat' (first | (with_reducible exact Grew.refl _) | (with_reducible assumption) | (with_reducible refine Grew.alloc ?_ _ _) | (with_reducible refine Grew.drew ?_) | (with_reducible refine Grew.drewN ?_ _) | (with_reducible refine Grew.setCell ?_ ?_ _) | go_size))) g4
  clear g4
  have z4_0 : w.heap.size < w4.heap.size := by omega
  have z4_0a : w.heap.size < w4.heap.size + 1 := by omega
  have z4_0b : w.heap.size < w4.heap.size + 1 + 1 := by omega
  go_wp2_with fail
  refine (K.eight_ok p v _ (HS.out.grown (by (repeat' (first | (with_reducible exact Grew.refl _) | (with_reducible assumption) | (with_reducible refine Grew.alloc ?_ _ _) | (with_reducible refine Grew.drew ?_) | (with_reducible refine Grew.drewN ?_ _) | (with_reducible refine Grew.setCell ?_ ?_ _) | go_size)))) V.out).mono ?_
  rintro e w5 ⟨q, v5, ho, rfl, hq, g5⟩
  have OF := Lib.hid (oct_facts V.out ho)
  clear ho
  obtain ⟨b5, o5, n5, rfl, hrow⟩ := hq.row (fun e => by have := OF.out.1.1.1; rw [e] at this; exact absurd this (by decide))
  clear hq
  have q_5 := Sl.of (c := n5) hrow
  clear hrow
  have Q8 : (q.length : Int) ≤ 8 := by have := OF.out.2.1; omega
  obtain ⟨c5, f5, z5⟩ := laid g5
  try simp at z5
  have G5 : Grew w w5 := Grew.trans (by (repeat' (first | (with_reducible exact Grew.refl _) | (with_reducible assumption) | (with_reducible refine Grew.alloc ?_ _ _) | (with_reducible refine Grew.drew ?_) | (with_reducible refine Grew.drewN ?_ _) | (with_reducible refine Grew.setCell ?_ ?_ _) | go_size))) g5
  clear g5
  have z5_0 : w.heap.size < w5.heap.size := by omega
  have z5_0a : w.heap.size < w5.heap.size + 1 := by omega
  have z5_0b : w.heap.size < w5.heap.size + 1 + 1 := by omega
  have z5_1 : w4.heap.size < w5.heap.size := by omega
  have z5_1a : w4.heap.size < w5.heap.size + 1 := by omega
  have z5_1b : w4.heap.size < w5.heap.size + 1 + 1 := by omega
  have z5_2 : w4.heap.size + 1 < w5.heap.size := by omega
  have z5_2a : w4.heap.size + 1 < w5.heap.size + 1 := by omega
  have z5_2b : w4.heap.size + 1 < w5.heap.size + 1 + 1 := by omega
  go_wp2_with fail
  refine (K.eight_ok q _ _ (q_5.grown (by (repeat' (first | (with_reducible exact Grew.refl _) | (with_reducible assumption) | (with_reducible refine Grew.alloc ?_ _ _) | (with_reducible refine Grew.drew ?_) | (with_reducible refine Grew.drewN ?_ _) | (with_reducible refine Grew.setCell ?_ ?_ _) | go_size)))) OF.out.1).mono ?_
  rintro e w6 ⟨r, v6, ho, rfl, r_6, g6⟩
  obtain rfl := OF.out.2.2.1 r ho
  clear ho
  have q_6 := q_5.grown (Grew.trans (a := w5) (by (repeat' (first | (with_reducible exact Grew.refl _) | (with_reducible assumption) | (with_reducible refine Grew.alloc ?_ _ _) | (with_reducible refine Grew.drew ?_) | (with_reducible refine Grew.drewN ?_ _) | (with_reducible refine Grew.setCell ?_ ?_ _) | go_size))) g6)
  obtain ⟨c6, f6, z6⟩ := laid g6
  try simp at z6
  have G6 : Grew w w6 := Grew.trans (by (repeat' (first | (with_reducible exact Grew.refl _) | (with_reducible assumption) | (with_reducible refine Grew.alloc ?_ _ _) | (with_reducible refine Grew.drew ?_) | (with_reducible refine Grew.drewN ?_ _) | (with_reducible refine Grew.setCell ?_ ?_ _) | go_size))) g6
  clear g6
  have z6_0 : w.heap.size < w6.heap.size := by omega
  have z6_0a : w.heap.size < w6.heap.size + 1 := by omega
  have z6_0b : w.heap.size < w6.heap.size + 1 + 1 := by omega
  have z6_1 : w4.heap.size < w6.heap.size := by omega
  have z6_1a : w4.heap.size < w6.heap.size + 1 := by omega
  have z6_1b : w4.heap.size < w6.heap.size + 1 + 1 := by omega
  have z6_2 : w4.heap.size + 1 < w6.heap.size := by omega
  have z6_2a : w4.heap.size + 1 < w6.heap.size + 1 := by omega
  have z6_2b : w4.heap.size + 1 < w6.heap.size + 1 + 1 := by omega
  go_wp2_with fail
  refine (K.box_ok r _ _ (q_6.grown (by (repeat' (first | (with_reducible exact Grew.refl _) | (with_reducible assumption) | (with_reducible refine Grew.alloc ?_ _ _) | (with_reducible refine Grew.drew ?_) | (with_reducible refine Grew.drewN ?_ _) | (with_reducible refine Grew.setCell ?_ ?_ _) | go_size)))) OF.out.1).mono ?_
  rintro e w7 ⟨lo', hi', hb', rfl, g7⟩
  obtain ⟨rfl, rfl⟩ := OF.out.2.2.2.2 lo hi lo' hi' HB.out hb'; have BR := Lib.hid hb'
  clear hb'
  have q_7 := q_6.grown (Grew.trans (a := w6) (by (repeat' (first | (with_reducible exact Grew.refl _) | (with_reducible assumption) | (with_reducible refine Grew.alloc ?_ _ _) | (with_reducible refine Grew.drew ?_) | (with_reducible refine Grew.drewN ?_ _) | (with_reducible refine Grew.setCell ?_ ?_ _) | go_size))) g7)
  have r_7 := r_6.grown (Grew.trans (a := w6) (by (repeat' (first | (with_reducible exact Grew.refl _) | (with_reducible assumption) | (with_reducible refine Grew.alloc ?_ _ _) | (with_reducible refine Grew.drew ?_) | (with_reducible refine Grew.drewN ?_ _) | (with_reducible refine Grew.setCell ?_ ?_ _) | go_size))) g7)
  obtain ⟨c7, f7, z7⟩ := laid g7
  try simp at z7
  have G7 : Grew w w7 := Grew.trans (by (repeat' (first | (with_reducible exact Grew.refl _) | (with_reducible assumption) | (with_reducible refine Grew.alloc ?_ _ _) | (with_reducible refine Grew.drew ?_) | (with_reducible refine Grew.drewN ?_ _) | (with_reducible refine Grew.setCell ?_ ?_ _) | go_size))) g7
  clear g7
  have z7_0 : w.heap.size < w7.heap.size := by omega
  have z7_0a : w.heap.size < w7.heap.size + 1 := by omega
  have z7_0b : w.heap.size < w7.heap.size + 1 + 1 := by omega
  have z7_1 : w4.heap.size < w7.heap.size := by omega
  have z7_1a : w4.heap.size < w7.heap.size + 1 := by omega
  have z7_1b : w4.heap.size < w7.heap.size + 1 + 1 := by omega
  have z7_2 : w4.heap.size + 1 < w7.heap.size := by omega
  have z7_2a : w4.heap.size + 1 < w7.heap.size + 1 := by omega
  have z7_2b : w4.heap.size + 1 < w7.heap.size + 1 + 1 := by omega
  go_wp2_with fail
  refine ((K.valid r _ _ (q_7.grown (by (repeat' (first | (with_reducible exact Grew.refl _) | (with_reducible assumption) | (with_reducible refine Grew.alloc ?_ _ _) | (with_reducible refine Grew.drew ?_) | (with_reducible refine Grew.drewN ?_ _) | (with_reducible refine Grew.setCell ?_ ?_ _) | go_size)))) (by omega)).mono fun _ _ t => t.to OF.out.1).mono ?_
  rintro e w8 ⟨rfl, g8⟩
  have q_8 := q_7.grown (Grew.trans (a := w7) (by (repeat' (first | (with_reducible exact Grew.refl _) | (with_reducible assumption) | (with_reducible refine Grew.alloc ?_ _ _) | (with_reducible refine Grew.drew ?_) | (with_reducible refine Grew.drewN ?_ _) | (with_reducible refine Grew.setCell ?_ ?_ _) | go_size))) g8)
  have r_8 := r_7.grown (Grew.trans (a := w7) (by (repeat' (first | (with_reducible exact Grew.refl _) | (with_reducible assumption) | (with_reducible refine Grew.alloc ?_ _ _) | (with_reducible refine Grew.drew ?_) | (with_reducible refine Grew.drewN ?_ _) | (with_reducible refine Grew.setCell ?_ ?_ _) | go_size))) g8)
  obtain ⟨c8, f8, z8⟩ := laid g8
  try simp at z8
  have G8 : Grew w w8 := Grew.trans (by (repeat' (first | (with_reducible exact Grew.refl _) | (with_reducible assumption) | (with_reducible refine Grew.alloc ?_ _ _) | (with_reducible refine Grew.drew ?_) | (with_reducible refine Grew.drewN ?_ _) | (with_reducible refine Grew.setCell ?_ ?_ _) | go_size))) g8
  clear g8
  have z8_0 : w.heap.size < w8.heap.size := by omega
  have z8_0a : w.heap.size < w8.heap.size + 1 := by omega
  have z8_0b : w.heap.size < w8.heap.size + 1 + 1 := by omega
  have z8_1 : w4.heap.size < w8.heap.size := by omega
  have z8_1a : w4.heap.size < w8.heap.size + 1 := by omega
  have z8_1b : w4.heap.size < w8.heap.size + 1 + 1 := by omega
  have z8_2 : w4.heap.size + 1 < w8.heap.size := by omega
  have z8_2a : w4.heap.size + 1 < w8.heap.size + 1 := by omega
  have z8_2b : w4.heap.size + 1 < w8.heap.size + 1 + 1 := by omega
  have z8_3 : w7.heap.size < w8.heap.size := by omega
  have z8_3a : w7.heap.size < w8.heap.size + 1 := by omega
  have z8_3b : w7.heap.size < w8.heap.size + 1 + 1 := by omega
  have z8_4 : w7.heap.size + 1 < w8.heap.size := by omega
  have z8_4a : w7.heap.size + 1 < w8.heap.size + 1 := by omega
  have z8_4b : w7.heap.size + 1 < w8.heap.size + 1 + 1 := by omega
  go_wp2_with fail
  refine ((same_any r r _ _ _ (r_8.grown (by (repeat' (first | (with_reducible exact Grew.refl _) | (with_reducible assumption) | (with_reducible refine Grew.alloc ?_ _ _) | (with_reducible refine Grew.drew ?_) | (with_reducible refine Grew.drewN ?_ _) | (with_reducible refine Grew.setCell ?_ ?_ _) | go_size)))) (q_8.grown (by (repeat' (first | (with_reducible exact Grew.refl _) | (with_reducible assumption) | (with_reducible refine Grew.alloc ?_ _ _) | (with_reducible refine Grew.drew ?_) | (with_reducible refine Grew.drewN ?_ _) | (with_reducible refine Grew.setCell ?_ ?_ _) | go_size)))) (by omega)).mono fun _ _ t => t.to rfl).mono ?_
  rintro e w9 ⟨rfl, g9⟩
  have q_9 := q_8.grown (Grew.trans (a := w8) (by (repeat' (first | (with_reducible exact Grew.refl _) | (with_reducible assumption) | (with_reducible refine Grew.alloc ?_ _ _) | (with_reducible refine Grew.drew ?_) | (with_reducible refine Grew.drewN ?_ _) | (with_reducible refine Grew.setCell ?_ ?_ _) | go_size))) g9)
  have r_9 := r_8.grown (Grew.trans (a := w8) (by (repeat' (first | (with_reducible exact Grew.refl _) | (with_reducible assumption) | (with_reducible refine Grew.alloc ?_ _ _) | (with_reducible refine Grew.drew ?_) | (with_reducible refine Grew.drewN ?_ _) | (with_reducible refine Grew.setCell ?_ ?_ _) | go_size))) g9)
  obtain ⟨c9, f9, z9⟩ := laid g9
  try simp at z9
  have G9 : Grew w w9 := Grew.trans (by (repeat' (first | (with_reducible exact Grew.refl _) | (with_reducible assumption) | (with_reducible refine Grew.alloc ?_ _ _) | (with_reducible refine Grew.drew ?_) | (with_reducible refine Grew.drewN ?_ _) | (with_reducible refine Grew.setCell ?_ ?_ _) | go_size))) g9
  clear g9
  have z9_0 : w.heap.size < w9.heap.size := by omega
  have z9_0a : w.heap.size < w9.heap.size + 1 := by omega
  have z9_0b : w.heap.size < w9.heap.size + 1 + 1 := by omega
  have z9_1 : w4.heap.size < w9.heap.size := by omega
  have z9_1a : w4.heap.size < w9.heap.size + 1 := by omega
  have z9_1b : w4.heap.size < w9.heap.size + 1 + 1 := by omega
  have z9_2 : w4.heap.size + 1 < w9.heap.size := by omega
  have z9_2a : w4.heap.size + 1 < w9.heap.size + 1 := by omega
  have z9_2b : w4.heap.size + 1 < w9.heap.size + 1 + 1 := by omega
  have z9_3 : w7.heap.size < w9.heap.size := by omega
  have z9_3a : w7.heap.size < w9.heap.size + 1 := by omega
  have z9_3b : w7.heap.size < w9.heap.size + 1 + 1 := by omega
  have z9_4 : w7.heap.size + 1 < w9.heap.size := by omega
  have z9_4a : w7.heap.size + 1 < w9.heap.size + 1 := by omega
  have z9_4b : w7.heap.size + 1 < w9.heap.size + 1 + 1 := by omega
  go_wp2_with fail
  refine (rplace_yes x _ X.out).mono ?_
  rintro e w10 ⟨rfl, g10⟩
  have q_10 := q_9.grown (Grew.trans (a := w9) (by (repeat' (first | (with_reducible exact Grew.refl _) | (with_reducible assumption) | (with_reducible refine Grew.alloc ?_ _ _) | (with_reducible refine Grew.drew ?_) | (with_reducible refine Grew.drewN ?_ _) | (with_reducible refine Grew.setCell ?_ ?_ _) | go_size))) g10)
  have r_10 := r_9.grown (Grew.trans (a := w9) (by (repeat' (first | (with_reducible exact Grew.refl _) | (with_reducible assumption) | (with_reducible refine Grew.alloc ?_ _ _) | (with_reducible refine Grew.drew ?_) | (with_reducible refine Grew.drewN ?_ _) | (with_reducible refine Grew.setCell ?_ ?_ _) | go_size))) g10)
  obtain ⟨c10, f10, z10⟩ := laid g10
  try simp at z10
  have G10 : Grew w w10 := Grew.trans (by (repeat' (first | (with_reducible exact Grew.refl _) | (with_reducible assumption) | (with_reducible refine Grew.alloc ?_ _ _) | (with_reducible refine Grew.drew ?_) | (with_reducible refine Grew.drewN ?_ _) | (with_reducible refine Grew.setCell ?_ ?_ _) | go_size))) g10
  clear g10
  have z10_0 : w.heap.size < w10.heap.size := by omega
  have z10_0a : w.heap.size < w10.heap.size + 1 := by omega
  have z10_0b : w.heap.size < w10.heap.size + 1 + 1 := by omega
  have z10_1 : w4.heap.size < w10.heap.size := by omega
  have z10_1a : w4.heap.size < w10.heap.size + 1 := by omega
  have z10_1b : w4.heap.size < w10.heap.size + 1 + 1 := by omega
  have z10_2 : w4.heap.size + 1 < w10.heap.size := by omega
  have z10_2a : w4.heap.size + 1 < w10.heap.size + 1 := by omega
  have z10_2b : w4.heap.size + 1 < w10.heap.size + 1 + 1 := by omega
  have z10_3 : w7.heap.size < w10.heap.size := by omega
  have z10_3a : w7.heap.size < w10.heap.size + 1 := by omega
  have z10_3b : w7.heap.size < w10.heap.size + 1 + 1 := by omega
  have z10_4 : w7.heap.size + 1 < w10.heap.size := by omega
  have z10_4a : w7.heap.size + 1 < w10.heap.size + 1 := by omega
  have z10_4b : w7.heap.size + 1 < w10.heap.size + 1 + 1 := by omega
  go_wp2_with fail
  refine (has_yes K p x v _ (HS.out.grown (by (repeat' (first | (with_reducible exact Grew.refl _) | (with_reducible assumption) | (with_reducible refine Grew.alloc ?_ _ _) | (with_reducible refine Grew.drew ?_) | (with_reducible refine Grew.drewN ?_ _) | (with_reducible refine Grew.setCell ?_ ?_ _) | go_size)))) V.out X.out A.out).mono ?_
  rintro e w11 ⟨rfl, g11⟩
  have q_11 := q_10.grown (Grew.trans (a := w10) (by (repeat' (first | (with_reducible exact Grew.refl _) | (with_reducible assumption) | (with_reducible refine Grew.alloc ?_ _ _) | (with_reducible refine Grew.drew ?_) | (with_reducible refine Grew.drewN ?_ _) | (with_reducible refine Grew.setCell ?_ ?_ _) | go_size))) g11)
  have r_11 := r_10.grown (Grew.trans (a := w10) (by (repeat' (first | (with_reducible exact Grew.refl _) | (with_reducible assumption) | (with_reducible refine Grew.alloc ?_ _ _) | (with_reducible refine Grew.drew ?_) | (with_reducible refine Grew.drewN ?_ _) | (with_reducible refine Grew.setCell ?_ ?_ _) | go_size))) g11)
  obtain ⟨c11, f11, z11⟩ := laid g11
  try simp at z11
  have G11 : Grew w w11 := Grew.trans (by (repeat' (first | (with_reducible exact Grew.refl _) | (with_reducible assumption) | (with_reducible refine Grew.alloc ?_ _ _) | (with_reducible refine Grew.drew ?_) | (with_reducible refine Grew.drewN ?_ _) | (with_reducible refine Grew.setCell ?_ ?_ _) | go_size))) g11
  clear g11
  have z11_0 : w.heap.size < w11.heap.size := by omega
  have z11_0a : w.heap.size < w11.heap.size + 1 := by omega
  have z11_0b : w.heap.size < w11.heap.size + 1 + 1 := by omega
  have z11_1 : w4.heap.size < w11.heap.size := by omega
  have z11_1a : w4.heap.size < w11.heap.size + 1 := by omega
  have z11_1b : w4.heap.size < w11.heap.size + 1 + 1 := by omega
  have z11_2 : w4.heap.size + 1 < w11.heap.size := by omega
  have z11_2a : w4.heap.size + 1 < w11.heap.size + 1 := by omega
  have z11_2b : w4.heap.size + 1 < w11.heap.size + 1 + 1 := by omega
  have z11_3 : w7.heap.size < w11.heap.size := by omega
  have z11_3a : w7.heap.size < w11.heap.size + 1 := by omega
  have z11_3b : w7.heap.size < w11.heap.size + 1 + 1 := by omega
  have z11_4 : w7.heap.size + 1 < w11.heap.size := by omega
  have z11_4a : w7.heap.size + 1 < w11.heap.size + 1 := by omega
  have z11_4b : w7.heap.size + 1 < w11.heap.size + 1 + 1 := by omega
  go_wp2_with fail
  obtain ⟨i0, i1, i2, i3⟩ := box_has V.out.pg HB.out A.out
  refine (has_yes K r x _ _ (q_11.grown (by (repeat' (first | (with_reducible exact Grew.refl _) | (with_reducible assumption) | (with_reducible refine Grew.alloc ?_ _ _) | (with_reducible refine Grew.drew ?_) | (with_reducible refine Grew.drewN ?_ _) | (with_reducible refine Grew.setCell ?_ ?_ _) | go_size)))) OF.out.1 X.out (OF.out.2.2.2.1 x A.out)).mono ?_
  rintro e w12 ⟨rfl, g12⟩
  have q_12 := q_11.grown (Grew.trans (a := w11) (by (repeat' (first | (with_reducible exact Grew.refl _) | (with_reducible assumption) | (with_reducible refine Grew.alloc ?_ _ _) | (with_reducible refine Grew.drew ?_) | (with_reducible refine Grew.drewN ?_ _) | (with_reducible refine Grew.setCell ?_ ?_ _) | go_size))) g12)
  have r_12 := r_11.grown (Grew.trans (a := w11) (by (repeat' (first | (with_reducible exact Grew.refl _) | (with_reducible assumption) | (with_reducible refine Grew.alloc ?_ _ _) | (with_reducible refine Grew.drew ?_) | (with_reducible refine Grew.drewN ?_ _) | (with_reducible refine Grew.setCell ?_ ?_ _) | go_size))) g12)
  obtain ⟨c12, f12, z12⟩ := laid g12
  try simp at z12
  have G12 : Grew w w12 := Grew.trans (by (repeat' (first | (with_reducible exact Grew.refl _) | (with_reducible assumption) | (with_reducible refine Grew.alloc ?_ _ _) | (with_reducible refine Grew.drew ?_) | (with_reducible refine Grew.drewN ?_ _) | (with_reducible refine Grew.setCell ?_ ?_ _) | go_size))) g12
  clear g12
  have z12_0 : w.heap.size < w12.heap.size := by omega
  have z12_0a : w.heap.size < w12.heap.size + 1 := by omega
  have z12_0b : w.heap.size < w12.heap.size + 1 + 1 := by omega
  have z12_1 : w4.heap.size < w12.heap.size := by omega
  have z12_1a : w4.heap.size < w12.heap.size + 1 := by omega
  have z12_1b : w4.heap.size < w12.heap.size + 1 + 1 := by omega
  have z12_2 : w4.heap.size + 1 < w12.heap.size := by omega
  have z12_2a : w4.heap.size + 1 < w12.heap.size + 1 := by omega
  have z12_2b : w4.heap.size + 1 < w12.heap.size + 1 + 1 := by omega
  have z12_3 : w7.heap.size < w12.heap.size := by omega
  have z12_3a : w7.heap.size < w12.heap.size + 1 := by omega
  have z12_3b : w7.heap.size < w12.heap.size + 1 + 1 := by omega
  have z12_4 : w7.heap.size + 1 < w12.heap.size := by omega
  have z12_4a : w7.heap.size + 1 < w12.heap.size + 1 := by omega
  have z12_4b : w7.heap.size + 1 < w12.heap.size + 1 + 1 := by omega
  go_wp2_with fail
  go_ret
  exact ⟨rfl, by (repeat' (first | (with_reducible exact Grew.refl _) | (with_reducible assumption) | (with_reducible refine Grew.alloc ?_ _ _) | (with_reducible refine Grew.drew ?_) | (with_reducible refine Grew.drewN ?_ _) | (with_reducible refine Grew.setCell ?_ ?_ _) | go_size))⟩

set_option maxRecDepth 100000 in
set_option maxHeartbeats 4000000 in
theorem boxes_out (K : Code) (p : List Pt) (x : Pt) (v : Value) (w : World) (HS : Hid (Sl w v p)) (H : Hid (p.length ≤ 80)) (V : Hid (Vl p)) (X : Hid (Plc x)) (A : Hid (¬ Hs p x)) : Calls Try.prog 7 #[v, .agg #[.int .i64 x.1, .int .i64 x.2]] w fun e w' => e = .returned (.bool true) ∧ Grew w w' := by
  go_enter Try.func7, Try.ntmps7
  go_wp2_with fail
  refine (head_true K _).mono ?_
  rintro e w1 ⟨rfl, g1⟩
  obtain ⟨c1, f1, z1⟩ := laid g1
  try simp at z1
  have G1 : Grew w w1 := Grew.trans (by (repeat' (first | (with_reducible exact Grew.refl _) | (with_reducible assumption) | (with_reducible refine Grew.alloc ?_ _ _) | (with_reducible refine Grew.drew ?_) | (with_reducible refine Grew.drewN ?_ _) | (with_reducible refine Grew.setCell ?_ ?_ _) | go_size))) g1
  clear g1
  have z1_0 : w.heap.size < w1.heap.size := by omega
  have z1_0a : w.heap.size < w1.heap.size + 1 := by omega
  have z1_0b : w.heap.size < w1.heap.size + 1 + 1 := by omega
  go_wp2_with fail
  refine (few_yes p v _ (HS.out.grown (by (repeat' (first | (with_reducible exact Grew.refl _) | (with_reducible assumption) | (with_reducible refine Grew.alloc ?_ _ _) | (with_reducible refine Grew.drew ?_) | (with_reducible refine Grew.drewN ?_ _) | (with_reducible refine Grew.setCell ?_ ?_ _) | go_size)))) H.out).mono ?_
  rintro e w2 ⟨rfl, g2⟩
  obtain ⟨c2, f2, z2⟩ := laid g2
  try simp at z2
  have G2 : Grew w w2 := Grew.trans (by (repeat' (first | (with_reducible exact Grew.refl _) | (with_reducible assumption) | (with_reducible refine Grew.alloc ?_ _ _) | (with_reducible refine Grew.drew ?_) | (with_reducible refine Grew.drewN ?_ _) | (with_reducible refine Grew.setCell ?_ ?_ _) | go_size))) g2
  clear g2
  have z2_0 : w.heap.size < w2.heap.size := by omega
  have z2_0a : w.heap.size < w2.heap.size + 1 := by omega
  have z2_0b : w.heap.size < w2.heap.size + 1 + 1 := by omega
  go_wp2_with fail
  refine (rvalid_yes p v _ (HS.out.grown (by (repeat' (first | (with_reducible exact Grew.refl _) | (with_reducible assumption) | (with_reducible refine Grew.alloc ?_ _ _) | (with_reducible refine Grew.drew ?_) | (with_reducible refine Grew.drewN ?_ _) | (with_reducible refine Grew.setCell ?_ ?_ _) | go_size)))) H.out V.out).mono ?_
  rintro e w3 ⟨rfl, g3⟩
  obtain ⟨c3, f3, z3⟩ := laid g3
  try simp at z3
  have G3 : Grew w w3 := Grew.trans (by (repeat' (first | (with_reducible exact Grew.refl _) | (with_reducible assumption) | (with_reducible refine Grew.alloc ?_ _ _) | (with_reducible refine Grew.drew ?_) | (with_reducible refine Grew.drewN ?_ _) | (with_reducible refine Grew.setCell ?_ ?_ _) | go_size))) g3
  clear g3
  have z3_0 : w.heap.size < w3.heap.size := by omega
  have z3_0a : w.heap.size < w3.heap.size + 1 := by omega
  have z3_0b : w.heap.size < w3.heap.size + 1 + 1 := by omega
  go_wp2_with fail
  refine (K.box_ok p v _ (HS.out.grown (by (repeat' (first | (with_reducible exact Grew.refl _) | (with_reducible assumption) | (with_reducible refine Grew.alloc ?_ _ _) | (with_reducible refine Grew.drew ?_) | (with_reducible refine Grew.drewN ?_ _) | (with_reducible refine Grew.setCell ?_ ?_ _) | go_size)))) V.out).mono ?_
  rintro e w4 ⟨lo, hi, hb, rfl, g4⟩
  have HB := Lib.hid hb
  clear hb
  obtain ⟨c4, f4, z4⟩ := laid g4
  try simp at z4
  have G4 : Grew w w4 := Grew.trans (by (repeat' (first | (with_reducible exact Grew.refl _) | (with_reducible assumption) | (with_reducible refine Grew.alloc ?_ _ _) | (with_reducible refine Grew.drew ?_) | (with_reducible refine Grew.drewN ?_ _) | (with_reducible refine Grew.setCell ?_ ?_ _) | go_size))) g4
  clear g4
  have z4_0 : w.heap.size < w4.heap.size := by omega
  have z4_0a : w.heap.size < w4.heap.size + 1 := by omega
  have z4_0b : w.heap.size < w4.heap.size + 1 + 1 := by omega
  go_wp2_with fail
  refine (K.eight_ok p v _ (HS.out.grown (by (repeat' (first | (with_reducible exact Grew.refl _) | (with_reducible assumption) | (with_reducible refine Grew.alloc ?_ _ _) | (with_reducible refine Grew.drew ?_) | (with_reducible refine Grew.drewN ?_ _) | (with_reducible refine Grew.setCell ?_ ?_ _) | go_size)))) V.out).mono ?_
  rintro e w5 ⟨q, v5, ho, rfl, hq, g5⟩
  have OF := Lib.hid (oct_facts V.out ho)
  clear ho
  obtain ⟨b5, o5, n5, rfl, hrow⟩ := hq.row (fun e => by have := OF.out.1.1.1; rw [e] at this; exact absurd this (by decide))
  clear hq
  have q_5 := Sl.of (c := n5) hrow
  clear hrow
  have Q8 : (q.length : Int) ≤ 8 := by have := OF.out.2.1; omega
  obtain ⟨c5, f5, z5⟩ := laid g5
  try simp at z5
  have G5 : Grew w w5 := Grew.trans (by (repeat' (first | (with_reducible exact Grew.refl _) | (with_reducible assumption) | (with_reducible refine Grew.alloc ?_ _ _) | (with_reducible refine Grew.drew ?_) | (with_reducible refine Grew.drewN ?_ _) | (with_reducible refine Grew.setCell ?_ ?_ _) | go_size))) g5
  clear g5
  have z5_0 : w.heap.size < w5.heap.size := by omega
  have z5_0a : w.heap.size < w5.heap.size + 1 := by omega
  have z5_0b : w.heap.size < w5.heap.size + 1 + 1 := by omega
  have z5_1 : w4.heap.size < w5.heap.size := by omega
  have z5_1a : w4.heap.size < w5.heap.size + 1 := by omega
  have z5_1b : w4.heap.size < w5.heap.size + 1 + 1 := by omega
  have z5_2 : w4.heap.size + 1 < w5.heap.size := by omega
  have z5_2a : w4.heap.size + 1 < w5.heap.size + 1 := by omega
  have z5_2b : w4.heap.size + 1 < w5.heap.size + 1 + 1 := by omega
  go_wp2_with fail
  refine (K.eight_ok q _ _ (q_5.grown (by (repeat' (first | (with_reducible exact Grew.refl _) | (with_reducible assumption) | (with_reducible refine Grew.alloc ?_ _ _) | (with_reducible refine Grew.drew ?_) | (with_reducible refine Grew.drewN ?_ _) | (with_reducible refine Grew.setCell ?_ ?_ _) | go_size)))) OF.out.1).mono ?_
  rintro e w6 ⟨r, v6, ho, rfl, r_6, g6⟩
  obtain rfl := OF.out.2.2.1 r ho
  clear ho
  have q_6 := q_5.grown (Grew.trans (a := w5) (by (repeat' (first | (with_reducible exact Grew.refl _) | (with_reducible assumption) | (with_reducible refine Grew.alloc ?_ _ _) | (with_reducible refine Grew.drew ?_) | (with_reducible refine Grew.drewN ?_ _) | (with_reducible refine Grew.setCell ?_ ?_ _) | go_size))) g6)
  obtain ⟨c6, f6, z6⟩ := laid g6
  try simp at z6
  have G6 : Grew w w6 := Grew.trans (by (repeat' (first | (with_reducible exact Grew.refl _) | (with_reducible assumption) | (with_reducible refine Grew.alloc ?_ _ _) | (with_reducible refine Grew.drew ?_) | (with_reducible refine Grew.drewN ?_ _) | (with_reducible refine Grew.setCell ?_ ?_ _) | go_size))) g6
  clear g6
  have z6_0 : w.heap.size < w6.heap.size := by omega
  have z6_0a : w.heap.size < w6.heap.size + 1 := by omega
  have z6_0b : w.heap.size < w6.heap.size + 1 + 1 := by omega
  have z6_1 : w4.heap.size < w6.heap.size := by omega
  have z6_1a : w4.heap.size < w6.heap.size + 1 := by omega
  have z6_1b : w4.heap.size < w6.heap.size + 1 + 1 := by omega
  have z6_2 : w4.heap.size + 1 < w6.heap.size := by omega
  have z6_2a : w4.heap.size + 1 < w6.heap.size + 1 := by omega
  have z6_2b : w4.heap.size + 1 < w6.heap.size + 1 + 1 := by omega
  go_wp2_with fail
  refine (K.box_ok r _ _ (q_6.grown (by (repeat' (first | (with_reducible exact Grew.refl _) | (with_reducible assumption) | (with_reducible refine Grew.alloc ?_ _ _) | (with_reducible refine Grew.drew ?_) | (with_reducible refine Grew.drewN ?_ _) | (with_reducible refine Grew.setCell ?_ ?_ _) | go_size)))) OF.out.1).mono ?_
  rintro e w7 ⟨lo', hi', hb', rfl, g7⟩
  obtain ⟨rfl, rfl⟩ := OF.out.2.2.2.2 lo hi lo' hi' HB.out hb'; have BR := Lib.hid hb'
  clear hb'
  have q_7 := q_6.grown (Grew.trans (a := w6) (by (repeat' (first | (with_reducible exact Grew.refl _) | (with_reducible assumption) | (with_reducible refine Grew.alloc ?_ _ _) | (with_reducible refine Grew.drew ?_) | (with_reducible refine Grew.drewN ?_ _) | (with_reducible refine Grew.setCell ?_ ?_ _) | go_size))) g7)
  have r_7 := r_6.grown (Grew.trans (a := w6) (by (repeat' (first | (with_reducible exact Grew.refl _) | (with_reducible assumption) | (with_reducible refine Grew.alloc ?_ _ _) | (with_reducible refine Grew.drew ?_) | (with_reducible refine Grew.drewN ?_ _) | (with_reducible refine Grew.setCell ?_ ?_ _) | go_size))) g7)
  obtain ⟨c7, f7, z7⟩ := laid g7
  try simp at z7
  have G7 : Grew w w7 := Grew.trans (by (repeat' (first | (with_reducible exact Grew.refl _) | (with_reducible assumption) | (with_reducible refine Grew.alloc ?_ _ _) | (with_reducible refine Grew.drew ?_) | (with_reducible refine Grew.drewN ?_ _) | (with_reducible refine Grew.setCell ?_ ?_ _) | go_size))) g7
  clear g7
  have z7_0 : w.heap.size < w7.heap.size := by omega
  have z7_0a : w.heap.size < w7.heap.size + 1 := by omega
  have z7_0b : w.heap.size < w7.heap.size + 1 + 1 := by omega
  have z7_1 : w4.heap.size < w7.heap.size := by omega
  have z7_1a : w4.heap.size < w7.heap.size + 1 := by omega
  have z7_1b : w4.heap.size < w7.heap.size + 1 + 1 := by omega
  have z7_2 : w4.heap.size + 1 < w7.heap.size := by omega
  have z7_2a : w4.heap.size + 1 < w7.heap.size + 1 := by omega
  have z7_2b : w4.heap.size + 1 < w7.heap.size + 1 + 1 := by omega
  go_wp2_with fail
  refine ((K.valid r _ _ (q_7.grown (by (repeat' (first | (with_reducible exact Grew.refl _) | (with_reducible assumption) | (with_reducible refine Grew.alloc ?_ _ _) | (with_reducible refine Grew.drew ?_) | (with_reducible refine Grew.drewN ?_ _) | (with_reducible refine Grew.setCell ?_ ?_ _) | go_size)))) (by omega)).mono fun _ _ t => t.to OF.out.1).mono ?_
  rintro e w8 ⟨rfl, g8⟩
  have q_8 := q_7.grown (Grew.trans (a := w7) (by (repeat' (first | (with_reducible exact Grew.refl _) | (with_reducible assumption) | (with_reducible refine Grew.alloc ?_ _ _) | (with_reducible refine Grew.drew ?_) | (with_reducible refine Grew.drewN ?_ _) | (with_reducible refine Grew.setCell ?_ ?_ _) | go_size))) g8)
  have r_8 := r_7.grown (Grew.trans (a := w7) (by (repeat' (first | (with_reducible exact Grew.refl _) | (with_reducible assumption) | (with_reducible refine Grew.alloc ?_ _ _) | (with_reducible refine Grew.drew ?_) | (with_reducible refine Grew.drewN ?_ _) | (with_reducible refine Grew.setCell ?_ ?_ _) | go_size))) g8)
  obtain ⟨c8, f8, z8⟩ := laid g8
  try simp at z8
  have G8 : Grew w w8 := Grew.trans (by (repeat' (first | (with_reducible exact Grew.refl _) | (with_reducible assumption) | (with_reducible refine Grew.alloc ?_ _ _) | (with_reducible refine Grew.drew ?_) | (with_reducible refine Grew.drewN ?_ _) | (with_reducible refine Grew.setCell ?_ ?_ _) | go_size))) g8
  clear g8
  have z8_0 : w.heap.size < w8.heap.size := by omega
  have z8_0a : w.heap.size < w8.heap.size + 1 := by omega
  have z8_0b : w.heap.size < w8.heap.size + 1 + 1 := by omega
  have z8_1 : w4.heap.size < w8.heap.size := by omega
  have z8_1a : w4.heap.size < w8.heap.size + 1 := by omega
  have z8_1b : w4.heap.size < w8.heap.size + 1 + 1 := by omega
  have z8_2 : w4.heap.size + 1 < w8.heap.size := by omega
  have z8_2a : w4.heap.size + 1 < w8.heap.size + 1 := by omega
  have z8_2b : w4.heap.size + 1 < w8.heap.size + 1 + 1 := by omega
  have z8_3 : w7.heap.size < w8.heap.size := by omega
  have z8_3a : w7.heap.size < w8.heap.size + 1 := by omega
  have z8_3b : w7.heap.size < w8.heap.size + 1 + 1 := by omega
  have z8_4 : w7.heap.size + 1 < w8.heap.size := by omega
  have z8_4a : w7.heap.size + 1 < w8.heap.size + 1 := by omega
  have z8_4b : w7.heap.size + 1 < w8.heap.size + 1 + 1 := by omega
  go_wp2_with fail
  refine ((same_any r r _ _ _ (r_8.grown (by (repeat' (first | (with_reducible exact Grew.refl _) | (with_reducible assumption) | (with_reducible refine Grew.alloc ?_ _ _) | (with_reducible refine Grew.drew ?_) | (with_reducible refine Grew.drewN ?_ _) | (with_reducible refine Grew.setCell ?_ ?_ _) | go_size)))) (q_8.grown (by (repeat' (first | (with_reducible exact Grew.refl _) | (with_reducible assumption) | (with_reducible refine Grew.alloc ?_ _ _) | (with_reducible refine Grew.drew ?_) | (with_reducible refine Grew.drewN ?_ _) | (with_reducible refine Grew.setCell ?_ ?_ _) | go_size)))) (by omega)).mono fun _ _ t => t.to rfl).mono ?_
  rintro e w9 ⟨rfl, g9⟩
  have q_9 := q_8.grown (Grew.trans (a := w8) (by (repeat' (first | (with_reducible exact Grew.refl _) | (with_reducible assumption) | (with_reducible refine Grew.alloc ?_ _ _) | (with_reducible refine Grew.drew ?_) | (with_reducible refine Grew.drewN ?_ _) | (with_reducible refine Grew.setCell ?_ ?_ _) | go_size))) g9)
  have r_9 := r_8.grown (Grew.trans (a := w8) (by (repeat' (first | (with_reducible exact Grew.refl _) | (with_reducible assumption) | (with_reducible refine Grew.alloc ?_ _ _) | (with_reducible refine Grew.drew ?_) | (with_reducible refine Grew.drewN ?_ _) | (with_reducible refine Grew.setCell ?_ ?_ _) | go_size))) g9)
  obtain ⟨c9, f9, z9⟩ := laid g9
  try simp at z9
  have G9 : Grew w w9 := Grew.trans (by (repeat' (first | (with_reducible exact Grew.refl _) | (with_reducible assumption) | (with_reducible refine Grew.alloc ?_ _ _) | (with_reducible refine Grew.drew ?_) | (with_reducible refine Grew.drewN ?_ _) | (with_reducible refine Grew.setCell ?_ ?_ _) | go_size))) g9
  clear g9
  have z9_0 : w.heap.size < w9.heap.size := by omega
  have z9_0a : w.heap.size < w9.heap.size + 1 := by omega
  have z9_0b : w.heap.size < w9.heap.size + 1 + 1 := by omega
  have z9_1 : w4.heap.size < w9.heap.size := by omega
  have z9_1a : w4.heap.size < w9.heap.size + 1 := by omega
  have z9_1b : w4.heap.size < w9.heap.size + 1 + 1 := by omega
  have z9_2 : w4.heap.size + 1 < w9.heap.size := by omega
  have z9_2a : w4.heap.size + 1 < w9.heap.size + 1 := by omega
  have z9_2b : w4.heap.size + 1 < w9.heap.size + 1 + 1 := by omega
  have z9_3 : w7.heap.size < w9.heap.size := by omega
  have z9_3a : w7.heap.size < w9.heap.size + 1 := by omega
  have z9_3b : w7.heap.size < w9.heap.size + 1 + 1 := by omega
  have z9_4 : w7.heap.size + 1 < w9.heap.size := by omega
  have z9_4a : w7.heap.size + 1 < w9.heap.size + 1 := by omega
  have z9_4b : w7.heap.size + 1 < w9.heap.size + 1 + 1 := by omega
  go_wp2_with fail
  refine (rplace_yes x _ X.out).mono ?_
  rintro e w10 ⟨rfl, g10⟩
  have q_10 := q_9.grown (Grew.trans (a := w9) (by (repeat' (first | (with_reducible exact Grew.refl _) | (with_reducible assumption) | (with_reducible refine Grew.alloc ?_ _ _) | (with_reducible refine Grew.drew ?_) | (with_reducible refine Grew.drewN ?_ _) | (with_reducible refine Grew.setCell ?_ ?_ _) | go_size))) g10)
  have r_10 := r_9.grown (Grew.trans (a := w9) (by (repeat' (first | (with_reducible exact Grew.refl _) | (with_reducible assumption) | (with_reducible refine Grew.alloc ?_ _ _) | (with_reducible refine Grew.drew ?_) | (with_reducible refine Grew.drewN ?_ _) | (with_reducible refine Grew.setCell ?_ ?_ _) | go_size))) g10)
  obtain ⟨c10, f10, z10⟩ := laid g10
  try simp at z10
  have G10 : Grew w w10 := Grew.trans (by (repeat' (first | (with_reducible exact Grew.refl _) | (with_reducible assumption) | (with_reducible refine Grew.alloc ?_ _ _) | (with_reducible refine Grew.drew ?_) | (with_reducible refine Grew.drewN ?_ _) | (with_reducible refine Grew.setCell ?_ ?_ _) | go_size))) g10
  clear g10
  have z10_0 : w.heap.size < w10.heap.size := by omega
  have z10_0a : w.heap.size < w10.heap.size + 1 := by omega
  have z10_0b : w.heap.size < w10.heap.size + 1 + 1 := by omega
  have z10_1 : w4.heap.size < w10.heap.size := by omega
  have z10_1a : w4.heap.size < w10.heap.size + 1 := by omega
  have z10_1b : w4.heap.size < w10.heap.size + 1 + 1 := by omega
  have z10_2 : w4.heap.size + 1 < w10.heap.size := by omega
  have z10_2a : w4.heap.size + 1 < w10.heap.size + 1 := by omega
  have z10_2b : w4.heap.size + 1 < w10.heap.size + 1 + 1 := by omega
  have z10_3 : w7.heap.size < w10.heap.size := by omega
  have z10_3a : w7.heap.size < w10.heap.size + 1 := by omega
  have z10_3b : w7.heap.size < w10.heap.size + 1 + 1 := by omega
  have z10_4 : w7.heap.size + 1 < w10.heap.size := by omega
  have z10_4a : w7.heap.size + 1 < w10.heap.size + 1 := by omega
  have z10_4b : w7.heap.size + 1 < w10.heap.size + 1 + 1 := by omega
  go_wp2_with fail
  refine (has_no K p x v _ (HS.out.grown (by (repeat' (first | (with_reducible exact Grew.refl _) | (with_reducible assumption) | (with_reducible refine Grew.alloc ?_ _ _) | (with_reducible refine Grew.drew ?_) | (with_reducible refine Grew.drewN ?_ _) | (with_reducible refine Grew.setCell ?_ ?_ _) | go_size)))) V.out X.out A.out).mono ?_
  rintro e w11 ⟨rfl, g11⟩
  have q_11 := q_10.grown (Grew.trans (a := w10) (by (repeat' (first | (with_reducible exact Grew.refl _) | (with_reducible assumption) | (with_reducible refine Grew.alloc ?_ _ _) | (with_reducible refine Grew.drew ?_) | (with_reducible refine Grew.drewN ?_ _) | (with_reducible refine Grew.setCell ?_ ?_ _) | go_size))) g11)
  have r_11 := r_10.grown (Grew.trans (a := w10) (by (repeat' (first | (with_reducible exact Grew.refl _) | (with_reducible assumption) | (with_reducible refine Grew.alloc ?_ _ _) | (with_reducible refine Grew.drew ?_) | (with_reducible refine Grew.drewN ?_ _) | (with_reducible refine Grew.setCell ?_ ?_ _) | go_size))) g11)
  obtain ⟨c11, f11, z11⟩ := laid g11
  try simp at z11
  have G11 : Grew w w11 := Grew.trans (by (repeat' (first | (with_reducible exact Grew.refl _) | (with_reducible assumption) | (with_reducible refine Grew.alloc ?_ _ _) | (with_reducible refine Grew.drew ?_) | (with_reducible refine Grew.drewN ?_ _) | (with_reducible refine Grew.setCell ?_ ?_ _) | go_size))) g11
  clear g11
  have z11_0 : w.heap.size < w11.heap.size := by omega
  have z11_0a : w.heap.size < w11.heap.size + 1 := by omega
  have z11_0b : w.heap.size < w11.heap.size + 1 + 1 := by omega
  have z11_1 : w4.heap.size < w11.heap.size := by omega
  have z11_1a : w4.heap.size < w11.heap.size + 1 := by omega
  have z11_1b : w4.heap.size < w11.heap.size + 1 + 1 := by omega
  have z11_2 : w4.heap.size + 1 < w11.heap.size := by omega
  have z11_2a : w4.heap.size + 1 < w11.heap.size + 1 := by omega
  have z11_2b : w4.heap.size + 1 < w11.heap.size + 1 + 1 := by omega
  have z11_3 : w7.heap.size < w11.heap.size := by omega
  have z11_3a : w7.heap.size < w11.heap.size + 1 := by omega
  have z11_3b : w7.heap.size < w11.heap.size + 1 + 1 := by omega
  have z11_4 : w7.heap.size + 1 < w11.heap.size := by omega
  have z11_4a : w7.heap.size + 1 < w11.heap.size + 1 := by omega
  have z11_4b : w7.heap.size + 1 < w11.heap.size + 1 + 1 := by omega
  go_wp2_with fail
  by_cases hx : Hs r x
  · have HX := Lib.hid hx
    clear hx
    obtain ⟨i0, i1, i2, i3⟩ := box_has OF.out.1.pg BR.out HX.out
    refine (has_yes K r x _ _ (q_11.grown (by (repeat' (first | (with_reducible exact Grew.refl _) | (with_reducible assumption) | (with_reducible refine Grew.alloc ?_ _ _) | (with_reducible refine Grew.drew ?_) | (with_reducible refine Grew.drewN ?_ _) | (with_reducible refine Grew.setCell ?_ ?_ _) | go_size)))) OF.out.1 X.out HX.out).mono ?_
    rintro e w12 ⟨rfl, g12⟩
    have q_12 := q_11.grown (Grew.trans (a := w11) (by (repeat' (first | (with_reducible exact Grew.refl _) | (with_reducible assumption) | (with_reducible refine Grew.alloc ?_ _ _) | (with_reducible refine Grew.drew ?_) | (with_reducible refine Grew.drewN ?_ _) | (with_reducible refine Grew.setCell ?_ ?_ _) | go_size))) g12)
    have r_12 := r_11.grown (Grew.trans (a := w11) (by (repeat' (first | (with_reducible exact Grew.refl _) | (with_reducible assumption) | (with_reducible refine Grew.alloc ?_ _ _) | (with_reducible refine Grew.drew ?_) | (with_reducible refine Grew.drewN ?_ _) | (with_reducible refine Grew.setCell ?_ ?_ _) | go_size))) g12)
    obtain ⟨c12, f12, z12⟩ := laid g12
    try simp at z12
    have G12 : Grew w w12 := Grew.trans (by (repeat' (first | (with_reducible exact Grew.refl _) | (with_reducible assumption) | (with_reducible refine Grew.alloc ?_ _ _) | (with_reducible refine Grew.drew ?_) | (with_reducible refine Grew.drewN ?_ _) | (with_reducible refine Grew.setCell ?_ ?_ _) | go_size))) g12
    clear g12
    have z12_0 : w.heap.size < w12.heap.size := by omega
    have z12_0a : w.heap.size < w12.heap.size + 1 := by omega
    have z12_0b : w.heap.size < w12.heap.size + 1 + 1 := by omega
    have z12_1 : w4.heap.size < w12.heap.size := by omega
    have z12_1a : w4.heap.size < w12.heap.size + 1 := by omega
    have z12_1b : w4.heap.size < w12.heap.size + 1 + 1 := by omega
    have z12_2 : w4.heap.size + 1 < w12.heap.size := by omega
    have z12_2a : w4.heap.size + 1 < w12.heap.size + 1 := by omega
    have z12_2b : w4.heap.size + 1 < w12.heap.size + 1 + 1 := by omega
    have z12_3 : w7.heap.size < w12.heap.size := by omega
    have z12_3a : w7.heap.size < w12.heap.size + 1 := by omega
    have z12_3b : w7.heap.size < w12.heap.size + 1 + 1 := by omega
    have z12_4 : w7.heap.size + 1 < w12.heap.size := by omega
    have z12_4a : w7.heap.size + 1 < w12.heap.size + 1 := by omega
    have z12_4b : w7.heap.size + 1 < w12.heap.size + 1 + 1 := by omega
    go_wp2_with fail
    go_ret
    exact ⟨rfl, by (repeat' (first | (with_reducible exact Grew.refl _) | (with_reducible assumption) | (with_reducible refine Grew.alloc ?_ _ _) | (with_reducible refine Grew.drew ?_) | (with_reducible refine Grew.drewN ?_ _) | (with_reducible refine Grew.setCell ?_ ?_ _) | go_size))⟩
  · have HX := Lib.hid hx
    clear hx
    refine (has_no K r x _ _ (q_11.grown (by (repeat' (first | (with_reducible exact Grew.refl _) | (with_reducible assumption) | (with_reducible refine Grew.alloc ?_ _ _) | (with_reducible refine Grew.drew ?_) | (with_reducible refine Grew.drewN ?_ _) | (with_reducible refine Grew.setCell ?_ ?_ _) | go_size)))) OF.out.1 X.out HX.out).mono ?_
    rintro e w12 ⟨rfl, g12⟩
    have q_12 := q_11.grown (Grew.trans (a := w11) (by (repeat' (first | (with_reducible exact Grew.refl _) | (with_reducible assumption) | (with_reducible refine Grew.alloc ?_ _ _) | (with_reducible refine Grew.drew ?_) | (with_reducible refine Grew.drewN ?_ _) | (with_reducible refine Grew.setCell ?_ ?_ _) | go_size))) g12)
    have r_12 := r_11.grown (Grew.trans (a := w11) (by (repeat' (first | (with_reducible exact Grew.refl _) | (with_reducible assumption) | (with_reducible refine Grew.alloc ?_ _ _) | (with_reducible refine Grew.drew ?_) | (with_reducible refine Grew.drewN ?_ _) | (with_reducible refine Grew.setCell ?_ ?_ _) | go_size))) g12)
    obtain ⟨c12, f12, z12⟩ := laid g12
    try simp at z12
    have G12 : Grew w w12 := Grew.trans (by (repeat' (first | (with_reducible exact Grew.refl _) | (with_reducible assumption) | (with_reducible refine Grew.alloc ?_ _ _) | (with_reducible refine Grew.drew ?_) | (with_reducible refine Grew.drewN ?_ _) | (with_reducible refine Grew.setCell ?_ ?_ _) | go_size))) g12
    clear g12
    have z12_0 : w.heap.size < w12.heap.size := by omega
    have z12_0a : w.heap.size < w12.heap.size + 1 := by omega
    have z12_0b : w.heap.size < w12.heap.size + 1 + 1 := by omega
    have z12_1 : w4.heap.size < w12.heap.size := by omega
    have z12_1a : w4.heap.size < w12.heap.size + 1 := by omega
    have z12_1b : w4.heap.size < w12.heap.size + 1 + 1 := by omega
    have z12_2 : w4.heap.size + 1 < w12.heap.size := by omega
    have z12_2a : w4.heap.size + 1 < w12.heap.size + 1 := by omega
    have z12_2b : w4.heap.size + 1 < w12.heap.size + 1 + 1 := by omega
    have z12_3 : w7.heap.size < w12.heap.size := by omega
    have z12_3a : w7.heap.size < w12.heap.size + 1 := by omega
    have z12_3b : w7.heap.size < w12.heap.size + 1 + 1 := by omega
    have z12_4 : w7.heap.size + 1 < w12.heap.size := by omega
    have z12_4a : w7.heap.size + 1 < w12.heap.size + 1 := by omega
    have z12_4b : w7.heap.size + 1 < w12.heap.size + 1 + 1 := by omega
    go_wp2_with fail
    all_goals
      go_wp2_with fail
      go_ret
      exact ⟨rfl, by (repeat' (first | (with_reducible exact Grew.refl _) | (with_reducible assumption) | (with_reducible refine Grew.alloc ?_ _ _) | (with_reducible refine Grew.drew ?_) | (with_reducible refine Grew.drewN ?_ _) | (with_reducible refine Grew.setCell ?_ ?_ _) | go_size))⟩

set_option maxRecDepth 100000 in
set_option maxHeartbeats 4000000 in
theorem boxes_true (K : Code) (p : List Pt) (x : Pt) (v : Value) (w : World) (hs : Sl w v p) : Calls Try.prog 7 #[v, .agg #[.int .i64 x.1, .int .i64 x.2]] w fun e w' => e = .returned (.bool true) ∧ Grew w w' := by
  have HS := Lib.hid hs
  clear hs
  by_cases h : p.length ≤ 80
  · have H := Lib.hid h
    clear h
    by_cases hv : Vl p
    · by_cases hx : Plc x
      · by_cases ha : Hs p x
        · exact boxes_in K p x v w HS H (Lib.hid hv) (Lib.hid hx) (Lib.hid ha)
        · exact boxes_out K p x v w HS H (Lib.hid hv) (Lib.hid hx) (Lib.hid ha)
      · exact boxes_far K p x v w HS H (Lib.hid hv) (Lib.hid hx)
    · have N := Lib.hid hv
      clear hv
      go_enter Try.func7, Try.ntmps7
      go_wp2_with fail
      refine (head_true K _).mono ?_
      rintro e w1 ⟨rfl, g1⟩
      obtain ⟨c1, f1, z1⟩ := laid g1
      try simp at z1
      have G1 : Grew w w1 := Grew.trans (by (repeat' (first | (with_reducible exact Grew.refl _) | (with_reducible assumption) | (with_reducible refine Grew.alloc ?_ _ _) | (with_reducible refine Grew.drew ?_) | (with_reducible refine Grew.drewN ?_ _) | (with_reducible refine Grew.setCell ?_ ?_ _) | go_size))) g1
      clear g1
      have z1_0 : w.heap.size < w1.heap.size := by omega
      have z1_0a : w.heap.size < w1.heap.size + 1 := by omega
      have z1_0b : w.heap.size < w1.heap.size + 1 + 1 := by omega
      go_wp2_with fail
      refine (few_yes p v _ (HS.out.grown (by (repeat' (first | (with_reducible exact Grew.refl _) | (with_reducible assumption) | (with_reducible refine Grew.alloc ?_ _ _) | (with_reducible refine Grew.drew ?_) | (with_reducible refine Grew.drewN ?_ _) | (with_reducible refine Grew.setCell ?_ ?_ _) | go_size)))) H.out).mono ?_
      rintro e w2 ⟨rfl, g2⟩
      obtain ⟨c2, f2, z2⟩ := laid g2
      try simp at z2
      have G2 : Grew w w2 := Grew.trans (by (repeat' (first | (with_reducible exact Grew.refl _) | (with_reducible assumption) | (with_reducible refine Grew.alloc ?_ _ _) | (with_reducible refine Grew.drew ?_) | (with_reducible refine Grew.drewN ?_ _) | (with_reducible refine Grew.setCell ?_ ?_ _) | go_size))) g2
      clear g2
      have z2_0 : w.heap.size < w2.heap.size := by omega
      have z2_0a : w.heap.size < w2.heap.size + 1 := by omega
      have z2_0b : w.heap.size < w2.heap.size + 1 + 1 := by omega
      go_wp2_with fail
      refine (rvalid_no p v _ (HS.out.grown (by (repeat' (first | (with_reducible exact Grew.refl _) | (with_reducible assumption) | (with_reducible refine Grew.alloc ?_ _ _) | (with_reducible refine Grew.drew ?_) | (with_reducible refine Grew.drewN ?_ _) | (with_reducible refine Grew.setCell ?_ ?_ _) | go_size)))) H.out N.out).mono ?_
      rintro e w3 ⟨rfl, g3⟩
      obtain ⟨c3, f3, z3⟩ := laid g3
      try simp at z3
      have G3 : Grew w w3 := Grew.trans (by (repeat' (first | (with_reducible exact Grew.refl _) | (with_reducible assumption) | (with_reducible refine Grew.alloc ?_ _ _) | (with_reducible refine Grew.drew ?_) | (with_reducible refine Grew.drewN ?_ _) | (with_reducible refine Grew.setCell ?_ ?_ _) | go_size))) g3
      clear g3
      have z3_0 : w.heap.size < w3.heap.size := by omega
      have z3_0a : w.heap.size < w3.heap.size + 1 := by omega
      have z3_0b : w.heap.size < w3.heap.size + 1 + 1 := by omega
      go_wp2_with fail
      go_ret
      exact ⟨rfl, by (repeat' (first | (with_reducible exact Grew.refl _) | (with_reducible assumption) | (with_reducible refine Grew.alloc ?_ _ _) | (with_reducible refine Grew.drew ?_) | (with_reducible refine Grew.drewN ?_ _) | (with_reducible refine Grew.setCell ?_ ?_ _) | go_size))⟩
  · have H := Lib.hid h
    clear h
    go_enter Try.func7, Try.ntmps7
    go_wp2_with fail
    refine (head_true K _).mono ?_
    rintro e w1 ⟨rfl, g1⟩
    obtain ⟨c1, f1, z1⟩ := laid g1
    try simp at z1
    have G1 : Grew w w1 := Grew.trans (by (repeat' (first | (with_reducible exact Grew.refl _) | (with_reducible assumption) | (with_reducible refine Grew.alloc ?_ _ _) | (with_reducible refine Grew.drew ?_) | (with_reducible refine Grew.drewN ?_ _) | (with_reducible refine Grew.setCell ?_ ?_ _) | go_size))) g1
    clear g1
    have z1_0 : w.heap.size < w1.heap.size := by omega
    have z1_0a : w.heap.size < w1.heap.size + 1 := by omega
    have z1_0b : w.heap.size < w1.heap.size + 1 + 1 := by omega
    go_wp2_with fail
    refine (few_no p v _ (HS.out.grown (by (repeat' (first | (with_reducible exact Grew.refl _) | (with_reducible assumption) | (with_reducible refine Grew.alloc ?_ _ _) | (with_reducible refine Grew.drew ?_) | (with_reducible refine Grew.drewN ?_ _) | (with_reducible refine Grew.setCell ?_ ?_ _) | go_size)))) H.out).mono ?_
    rintro e w2 ⟨rfl, g2⟩
    obtain ⟨c2, f2, z2⟩ := laid g2
    try simp at z2
    have G2 : Grew w w2 := Grew.trans (by (repeat' (first | (with_reducible exact Grew.refl _) | (with_reducible assumption) | (with_reducible refine Grew.alloc ?_ _ _) | (with_reducible refine Grew.drew ?_) | (with_reducible refine Grew.drewN ?_ _) | (with_reducible refine Grew.setCell ?_ ?_ _) | go_size))) g2
    clear g2
    have z2_0 : w.heap.size < w2.heap.size := by omega
    have z2_0a : w.heap.size < w2.heap.size + 1 := by omega
    have z2_0b : w.heap.size < w2.heap.size + 1 + 1 := by omega
    go_wp2_with fail
    go_ret
    exact ⟨rfl, by (repeat' (first | (with_reducible exact Grew.refl _) | (with_reducible assumption) | (with_reducible refine Grew.alloc ?_ _ _) | (with_reducible refine Grew.drew ?_) | (with_reducible refine Grew.drewN ?_ _) | (with_reducible refine Grew.setCell ?_ ?_ _) | go_size))⟩
end Hl
end Go.Proofs.Ythcfbfgfpophmaa
