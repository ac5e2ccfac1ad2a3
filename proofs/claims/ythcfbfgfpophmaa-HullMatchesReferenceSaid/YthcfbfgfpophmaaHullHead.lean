/-
  The examples at the head of the statements about layer 3.
-/
import Derived.Test.YthcfbfgfpophmaaHullEx
namespace Go.Proofs.Ythcfbfgfpophmaa
open Go.RowKit
namespace Hl
theorem Sl.row {w : World} {v : Value} {p : List Pt} (h : Sl w v p) (hn : p ≠ []) : ∃ b o c, v = .slice (some ⟨b, o, none⟩) p.length c ∧ Row w b o p := by
  rcases h with ⟨h, _⟩ | h
  · exact absurd h hn
  · exact h
theorem Sl.of {w : World} {b o c : Nat} {p : List Pt} (h : Row w b o p) : Sl w (.slice (some ⟨b, o, none⟩) p.length c) p := Or.inr ⟨b, o, c, rfl, h⟩
theorem h_six (K : Code) (b o c : Nat) (w : World) (hr : Row w b o l6) : Calls Try.prog 12 #[.slice (some ⟨b, o, none⟩) 6 c] w fun e w' => ∃ b' o' c', e = .returned (.tuple #[.slice (some ⟨b', o', none⟩) 4 c', .int .i64 0]) ∧ Row w' b' o' sq ∧ Grew w w' := by
  refine (K.hull_ok l6 _ w (Sl.of hr) (by decide) (by decide) six_plcs).mono ?_
  rintro e w1 ⟨q, hq, hd⟩
  obtain rfl := six_is hq
  rcases hd with ⟨_, v, rfl, hs, g⟩ | ⟨h, _⟩
  · obtain ⟨b', o', c', rfl, hr'⟩ := hs.row (by decide)
    exact ⟨b', o', c', rfl, hr', g⟩
  · exact absurd h (by decide)
theorem h_eight (K : Code) (b o c : Nat) (w : World) (hr : Row w b o seg) : Calls Try.prog 21 #[.slice (some ⟨b, o, none⟩) 2 c] w fun e w' => ∃ b' o' c', e = .returned (.tuple #[.slice (some ⟨b', o', none⟩) 4 c', .int .i64 0]) ∧ Row w' b' o' o4 ∧ Grew w w' := by
  refine (K.eight_ok seg _ w (Sl.of hr) seg_vl).mono ?_
  rintro e w1 ⟨q, v, hq, rfl, hs, g⟩
  obtain rfl := seg_oct hq
  obtain ⟨b', o', c', rfl, hr'⟩ := hs.row (by decide)
  exact ⟨b', o', c', rfl, hr', g⟩
theorem h_area (K : Code) (b o c : Nat) (w : World) (hr : Row w b o sq) : Calls Try.prog 23 #[.slice (some ⟨b, o, none⟩) 4 c] w fun e w' => e = .returned (.tuple #[.int .i64 32, .int .i64 0]) ∧ Grew w w' := by
  have h := K.area_ok sq _ w (Sl.of (c := c) hr) sq_vl
  rwa [sq_area] at h
theorem h_box (K : Code) (b o c : Nat) (w : World) (hr : Row w b o sq) : Calls Try.prog 19 #[.slice (some ⟨b, o, none⟩) 4 c] w fun e w' => e = .returned (.tuple #[.agg #[.int .i64 0, .int .i64 0], .agg #[.int .i64 4, .int .i64 4], .int .i64 0]) ∧ Grew w w' := by
  refine (K.box_ok sq _ w (Sl.of hr) sq_vl).mono ?_
  rintro e w1 ⟨lo, hi, hb, rfl, g⟩
  obtain ⟨rfl, rfl⟩ := sq_box hb
  exact ⟨rfl, g⟩
theorem h_has (K : Code) (b o c : Nat) (w : World) (hr : Row w b o sq) : Calls Try.prog 17 #[.slice (some ⟨b, o, none⟩) 4 c, .agg #[.int .i64 4, .int .i64 3]] w fun e w' => e = .returned (.tuple #[.bool true, .int .i64 0]) ∧ Grew w w' := by
  refine (K.has_ok sq (4, 3) _ w (Sl.of hr) sq_vl (by decide)).mono ?_
  rintro e w1 ⟨r, rfl, hr, g⟩
  rw [hr.2 sq_has]
  exact ⟨rfl, g⟩
theorem h_not (K : Code) (b o c : Nat) (w : World) (hr : Row w b o sq) : Calls Try.prog 17 #[.slice (some ⟨b, o, none⟩) 4 c, .agg #[.int .i64 5, .int .i64 3]] w fun e w' => e = .returned (.tuple #[.bool false, .int .i64 0]) ∧ Grew w w' := by
  refine (K.has_ok sq (5, 3) _ w (Sl.of hr) sq_vl (by decide)).mono ?_
  rintro e w1 ⟨r, rfl, hr, g⟩
  cases r
  · exact ⟨rfl, g⟩
  · exact absurd (hr.1 rfl) sq_not
theorem h_nil (K : Code) (w : World) : Calls Try.prog 12 #[.slice none 0 0] w fun e w' => ∃ v, e = .returned (.tuple #[v, .int .i64 1]) ∧ Grew w w' := by
  refine (K.hull_bad [] _ w (Or.inl ⟨rfl, none, 0, rfl⟩) (by decide) (Or.inl rfl)).mono ?_
  rintro e w1 ⟨v, rfl, _, g⟩
  exact ⟨v, rfl, g⟩
theorem h_far (K : Code) (b o c : Nat) (w : World) (hr : Row w b o [(500001, 0)]) : Calls Try.prog 12 #[.slice (some ⟨b, o, none⟩) 1 c] w fun e w' => ∃ v, e = .returned (.tuple #[v, .int .i64 1]) ∧ Grew w w' := by
  refine (K.hull_bad [(500001, 0)] _ w (Sl.of hr) (by decide) (Or.inr far_not)).mono ?_
  rintro e w1 ⟨v, rfl, _, g⟩
  exact ⟨v, rfl, g⟩
theorem Tells.to {q : Prop} {w : World} {e : Ending} {w' : World} (h : Tells q w e w') (hq : q) : e = .returned (.bool true) ∧ Grew w w' := by
  obtain ⟨r, rfl, hr, g⟩ := h
  rw [hr.2 hq]
  exact ⟨rfl, g⟩
theorem Tells.un {q : Prop} {w : World} {e : Ending} {w' : World} (h : Tells q w e w') (hq : ¬ q) : e = .returned (.bool false) ∧ Grew w w' := by
  obtain ⟨r, rfl, hr, g⟩ := h
  cases r
  · exact ⟨rfl, g⟩
  · exact absurd (hr.1 rfl) hq
theorem h_valid (K : Code) (b o c : Nat) (w : World) (hr : Row w b o sq) : Calls Try.prog 15 #[.slice (some ⟨b, o, none⟩) 4 c] w fun e w' => e = .returned (.bool true) ∧ Grew w w' :=
  (K.valid sq _ w (Sl.of hr) (by decide)).mono fun _ _ h => h.to sq_vl
theorem h_invalid (K : Code) (w : World) : Calls Try.prog 15 #[.slice none 0 0] w fun e w' => e = .returned (.bool false) ∧ Grew w w' :=
  (K.valid [] _ w (Or.inl ⟨rfl, none, 0, rfl⟩) (by decide)).mono fun _ _ h => h.un (fun t => absurd t.1.1 (by decide))
theorem h_same (p : List Pt) (n : Nat) (hn : p.length = n) (b o c b' o' c' : Nat) (w : World) (h : Row w b o p) (h' : Row w b' o' p) (hl : n ≤ 80) : Calls Try.prog 14 #[.slice (some ⟨b, o, none⟩) n c, .slice (some ⟨b', o', none⟩) n c'] w fun e w' => e = .returned (.bool true) ∧ Grew w w' := by
  subst hn
  exact (same_rows p p b o c b' o' c' w h h' rfl (by omega)).mono fun _ _ t => t.to rfl

set_option maxRecDepth 100000 in
set_option maxHeartbeats 4000000 in
theorem head_true (K : Code) (w : World) : Calls Try.prog 10 #[] w fun e w' => e = .returned (.bool true) ∧ Grew w w' := by
  go_enter Try.func10, Try.ntmps10
  go_wp2_with fail
  refine (h_six K _ _ _ _ (row_new l6 _ rfl _ _)).mono ?_
  rintro e w1 ⟨b1, o1, n1, rfl, ra_1, g1⟩
  obtain ⟨c1, f1, z1⟩ := laid g1
  try simp at z1
  have G1 : Grew w w1 := Grew.trans (by (repeat' (first | (with_reducible exact Grew.refl _) | (with_reducible assumption) | (with_reducible refine Grew.alloc ?_ _ _) | (with_reducible refine Grew.drew ?_) | (with_reducible refine Grew.drewN ?_ _) | (with_reducible refine Grew.setCell ?_ ?_ _) | go_size))) g1
  clear g1
  have z1_0 : w.heap.size < w1.heap.size := by omega
  go_wp2_with fail
  refine (h_area K _ _ _ _ ra_1).mono ?_
  rintro e w2 ⟨rfl, g2⟩
  have ra_2 := ra_1.grown (Grew.trans (a := w1) (by (repeat' (first | (with_reducible exact Grew.refl _) | (with_reducible assumption) | (with_reducible refine Grew.alloc ?_ _ _) | (with_reducible refine Grew.drew ?_) | (with_reducible refine Grew.drewN ?_ _) | (with_reducible refine Grew.setCell ?_ ?_ _) | go_size))) g2)
  obtain ⟨c2, f2, z2⟩ := laid g2
  try simp at z2
  have G2 : Grew w w2 := Grew.trans (by (repeat' (first | (with_reducible exact Grew.refl _) | (with_reducible assumption) | (with_reducible refine Grew.alloc ?_ _ _) | (with_reducible refine Grew.drew ?_) | (with_reducible refine Grew.drewN ?_ _) | (with_reducible refine Grew.setCell ?_ ?_ _) | go_size))) g2
  clear g2
  have z2_0 : w.heap.size < w2.heap.size := by omega
  go_wp2_with fail
  refine (h_eight K _ _ _ _ (row_new seg _ rfl _ _)).mono ?_
  rintro e w3 ⟨b2, o2, n2, rfl, rb_3, g3⟩
  have ra_3 := ra_2.grown (Grew.trans (a := w2) (by (repeat' (first | (with_reducible exact Grew.refl _) | (with_reducible assumption) | (with_reducible refine Grew.alloc ?_ _ _) | (with_reducible refine Grew.drew ?_) | (with_reducible refine Grew.drewN ?_ _) | (with_reducible refine Grew.setCell ?_ ?_ _) | go_size))) g3)
  obtain ⟨c3, f3, z3⟩ := laid g3
  try simp at z3
  have G3 : Grew w w3 := Grew.trans (by (repeat' (first | (with_reducible exact Grew.refl _) | (with_reducible assumption) | (with_reducible refine Grew.alloc ?_ _ _) | (with_reducible refine Grew.drew ?_) | (with_reducible refine Grew.drewN ?_ _) | (with_reducible refine Grew.setCell ?_ ?_ _) | go_size))) g3
  clear g3
  have z3_0 : w.heap.size < w3.heap.size := by omega
  go_wp2_with fail
  refine (h_box K _ _ _ _ ra_3).mono ?_
  rintro e w4 ⟨rfl, g4⟩
  have ra_4 := ra_3.grown (Grew.trans (a := w3) (by (repeat' (first | (with_reducible exact Grew.refl _) | (with_reducible assumption) | (with_reducible refine Grew.alloc ?_ _ _) | (with_reducible refine Grew.drew ?_) | (with_reducible refine Grew.drewN ?_ _) | (with_reducible refine Grew.setCell ?_ ?_ _) | go_size))) g4)
  have rb_4 := rb_3.grown (Grew.trans (a := w3) (by (repeat' (first | (with_reducible exact Grew.refl _) | (with_reducible assumption) | (with_reducible refine Grew.alloc ?_ _ _) | (with_reducible refine Grew.drew ?_) | (with_reducible refine Grew.drewN ?_ _) | (with_reducible refine Grew.setCell ?_ ?_ _) | go_size))) g4)
  obtain ⟨c4, f4, z4⟩ := laid g4
  try simp at z4
  have G4 : Grew w w4 := Grew.trans (by (repeat' (first | (with_reducible exact Grew.refl _) | (with_reducible assumption) | (with_reducible refine Grew.alloc ?_ _ _) | (with_reducible refine Grew.drew ?_) | (with_reducible refine Grew.drewN ?_ _) | (with_reducible refine Grew.setCell ?_ ?_ _) | go_size))) g4
  clear g4
  have z4_0 : w.heap.size < w4.heap.size := by omega
  go_wp2_with fail
  refine (h_has K _ _ _ _ (ra_4.grown (by (repeat' (first | (with_reducible exact Grew.refl _) | (with_reducible assumption) | (with_reducible refine Grew.alloc ?_ _ _) | (with_reducible refine Grew.drew ?_) | (with_reducible refine Grew.drewN ?_ _) | (with_reducible refine Grew.setCell ?_ ?_ _) | go_size))))).mono ?_
  rintro e w5 ⟨rfl, g5⟩
  have ra_5 := ra_4.grown (Grew.trans (a := w4) (by (repeat' (first | (with_reducible exact Grew.refl _) | (with_reducible assumption) | (with_reducible refine Grew.alloc ?_ _ _) | (with_reducible refine Grew.drew ?_) | (with_reducible refine Grew.drewN ?_ _) | (with_reducible refine Grew.setCell ?_ ?_ _) | go_size))) g5)
  have rb_5 := rb_4.grown (Grew.trans (a := w4) (by (repeat' (first | (with_reducible exact Grew.refl _) | (with_reducible assumption) | (with_reducible refine Grew.alloc ?_ _ _) | (with_reducible refine Grew.drew ?_) | (with_reducible refine Grew.drewN ?_ _) | (with_reducible refine Grew.setCell ?_ ?_ _) | go_size))) g5)
  obtain ⟨c5, f5, z5⟩ := laid g5
  try simp at z5
  have G5 : Grew w w5 := Grew.trans (by (repeat' (first | (with_reducible exact Grew.refl _) | (with_reducible assumption) | (with_reducible refine Grew.alloc ?_ _ _) | (with_reducible refine Grew.drew ?_) | (with_reducible refine Grew.drewN ?_ _) | (with_reducible refine Grew.setCell ?_ ?_ _) | go_size))) g5
  clear g5
  have z5_0 : w.heap.size < w5.heap.size := by omega
  have z5_1 : w4.heap.size < w5.heap.size := by omega
  have z5_2 : w4.heap.size + 1 < w5.heap.size := by omega
  go_wp2_with fail
  refine (h_not K _ _ _ _ ra_5).mono ?_
  rintro e w6 ⟨rfl, g6⟩
  have ra_6 := ra_5.grown (Grew.trans (a := w5) (by (repeat' (first | (with_reducible exact Grew.refl _) | (with_reducible assumption) | (with_reducible refine Grew.alloc ?_ _ _) | (with_reducible refine Grew.drew ?_) | (with_reducible refine Grew.drewN ?_ _) | (with_reducible refine Grew.setCell ?_ ?_ _) | go_size))) g6)
  have rb_6 := rb_5.grown (Grew.trans (a := w5) (by (repeat' (first | (with_reducible exact Grew.refl _) | (with_reducible assumption) | (with_reducible refine Grew.alloc ?_ _ _) | (with_reducible refine Grew.drew ?_) | (with_reducible refine Grew.drewN ?_ _) | (with_reducible refine Grew.setCell ?_ ?_ _) | go_size))) g6)
  obtain ⟨c6, f6, z6⟩ := laid g6
  try simp at z6
  have G6 : Grew w w6 := Grew.trans (by (repeat' (first | (with_reducible exact Grew.refl _) | (with_reducible assumption) | (with_reducible refine Grew.alloc ?_ _ _) | (with_reducible refine Grew.drew ?_) | (with_reducible refine Grew.drewN ?_ _) | (with_reducible refine Grew.setCell ?_ ?_ _) | go_size))) g6
  clear g6
  have z6_0 : w.heap.size < w6.heap.size := by omega
  have z6_1 : w4.heap.size < w6.heap.size := by omega
  have z6_2 : w4.heap.size + 1 < w6.heap.size := by omega
  go_wp2_with fail
  refine (h_nil K _).mono ?_
  rintro e w7 ⟨v7, rfl, g7⟩
  have ra_7 := ra_6.grown (Grew.trans (a := w6) (by (repeat' (first | (with_reducible exact Grew.refl _) | (with_reducible assumption) | (with_reducible refine Grew.alloc ?_ _ _) | (with_reducible refine Grew.drew ?_) | (with_reducible refine Grew.drewN ?_ _) | (with_reducible refine Grew.setCell ?_ ?_ _) | go_size))) g7)
  have rb_7 := rb_6.grown (Grew.trans (a := w6) (by (repeat' (first | (with_reducible exact Grew.refl _) | (with_reducible assumption) | (with_reducible refine Grew.alloc ?_ _ _) | (with_reducible refine Grew.drew ?_) | (with_reducible refine Grew.drewN ?_ _) | (with_reducible refine Grew.setCell ?_ ?_ _) | go_size))) g7)
  obtain ⟨c7, f7, z7⟩ := laid g7
  try simp at z7
  have G7 : Grew w w7 := Grew.trans (by (repeat' (first | (with_reducible exact Grew.refl _) | (with_reducible assumption) | (with_reducible refine Grew.alloc ?_ _ _) | (with_reducible refine Grew.drew ?_) | (with_reducible refine Grew.drewN ?_ _) | (with_reducible refine Grew.setCell ?_ ?_ _) | go_size))) g7
  clear g7
  have z7_0 : w.heap.size < w7.heap.size := by omega
  have z7_1 : w4.heap.size < w7.heap.size := by omega
  have z7_2 : w4.heap.size + 1 < w7.heap.size := by omega
  go_wp2_with fail
  refine (h_far K _ _ _ _ (row_new [(500001, 0)] _ rfl _ _)).mono ?_
  rintro e w8 ⟨v8, rfl, g8⟩
  have ra_8 := ra_7.grown (Grew.trans (a := w7) (by (repeat' (first | (with_reducible exact Grew.refl _) | (with_reducible assumption) | (with_reducible refine Grew.alloc ?_ _ _) | (with_reducible refine Grew.drew ?_) | (with_reducible refine Grew.drewN ?_ _) | (with_reducible refine Grew.setCell ?_ ?_ _) | go_size))) g8)
  have rb_8 := rb_7.grown (Grew.trans (a := w7) (by (repeat' (first | (with_reducible exact Grew.refl _) | (with_reducible assumption) | (with_reducible refine Grew.alloc ?_ _ _) | (with_reducible refine Grew.drew ?_) | (with_reducible refine Grew.drewN ?_ _) | (with_reducible refine Grew.setCell ?_ ?_ _) | go_size))) g8)
  obtain ⟨c8, f8, z8⟩ := laid g8
  try simp at z8
  have G8 : Grew w w8 := Grew.trans (by (repeat' (first | (with_reducible exact Grew.refl _) | (with_reducible assumption) | (with_reducible refine Grew.alloc ?_ _ _) | (with_reducible refine Grew.drew ?_) | (with_reducible refine Grew.drewN ?_ _) | (with_reducible refine Grew.setCell ?_ ?_ _) | go_size))) g8
  clear g8
  have z8_0 : w.heap.size < w8.heap.size := by omega
  have z8_1 : w4.heap.size < w8.heap.size := by omega
  have z8_2 : w4.heap.size + 1 < w8.heap.size := by omega
  go_wp2_with fail
  refine (h_same sq 4 rfl _ _ _ _ _ _ _ (ra_8.grown (by (repeat' (first | (with_reducible exact Grew.refl _) | (with_reducible assumption) | (with_reducible refine Grew.alloc ?_ _ _) | (with_reducible refine Grew.drew ?_) | (with_reducible refine Grew.drewN ?_ _) | (with_reducible refine Grew.setCell ?_ ?_ _) | go_size)))) (row_new sq _ rfl _ _) (by decide)).mono ?_
  rintro e w9 ⟨rfl, g9⟩
  have ra_9 := ra_8.grown (Grew.trans (a := w8) (by (repeat' (first | (with_reducible exact Grew.refl _) | (with_reducible assumption) | (with_reducible refine Grew.alloc ?_ _ _) | (with_reducible refine Grew.drew ?_) | (with_reducible refine Grew.drewN ?_ _) | (with_reducible refine Grew.setCell ?_ ?_ _) | go_size))) g9)
  have rb_9 := rb_8.grown (Grew.trans (a := w8) (by (repeat' (first | (with_reducible exact Grew.refl _) | (with_reducible assumption) | (with_reducible refine Grew.alloc ?_ _ _) | (with_reducible refine Grew.drew ?_) | (with_reducible refine Grew.drewN ?_ _) | (with_reducible refine Grew.setCell ?_ ?_ _) | go_size))) g9)
  obtain ⟨c9, f9, z9⟩ := laid g9
  try simp at z9
  have G9 : Grew w w9 := Grew.trans (by (repeat' (first | (with_reducible exact Grew.refl _) | (with_reducible assumption) | (with_reducible refine Grew.alloc ?_ _ _) | (with_reducible refine Grew.drew ?_) | (with_reducible refine Grew.drewN ?_ _) | (with_reducible refine Grew.setCell ?_ ?_ _) | go_size))) g9
  clear g9
  have z9_0 : w.heap.size < w9.heap.size := by omega
  have z9_1 : w4.heap.size < w9.heap.size := by omega
  have z9_2 : w4.heap.size + 1 < w9.heap.size := by omega
  go_wp2_with fail
  refine (h_same o4 4 rfl _ _ _ _ _ _ _ (rb_9.grown (by (repeat' (first | (with_reducible exact Grew.refl _) | (with_reducible assumption) | (with_reducible refine Grew.alloc ?_ _ _) | (with_reducible refine Grew.drew ?_) | (with_reducible refine Grew.drewN ?_ _) | (with_reducible refine Grew.setCell ?_ ?_ _) | go_size)))) (row_new o4 _ rfl _ _) (by decide)).mono ?_
  rintro e w10 ⟨rfl, g10⟩
  have ra_10 := ra_9.grown (Grew.trans (a := w9) (by (repeat' (first | (with_reducible exact Grew.refl _) | (with_reducible assumption) | (with_reducible refine Grew.alloc ?_ _ _) | (with_reducible refine Grew.drew ?_) | (with_reducible refine Grew.drewN ?_ _) | (with_reducible refine Grew.setCell ?_ ?_ _) | go_size))) g10)
  have rb_10 := rb_9.grown (Grew.trans (a := w9) (by (repeat' (first | (with_reducible exact Grew.refl _) | (with_reducible assumption) | (with_reducible refine Grew.alloc ?_ _ _) | (with_reducible refine Grew.drew ?_) | (with_reducible refine Grew.drewN ?_ _) | (with_reducible refine Grew.setCell ?_ ?_ _) | go_size))) g10)
  obtain ⟨c10, f10, z10⟩ := laid g10
  try simp at z10
  have G10 : Grew w w10 := Grew.trans (by (repeat' (first | (with_reducible exact Grew.refl _) | (with_reducible assumption) | (with_reducible refine Grew.alloc ?_ _ _) | (with_reducible refine Grew.drew ?_) | (with_reducible refine Grew.drewN ?_ _) | (with_reducible refine Grew.setCell ?_ ?_ _) | go_size))) g10
  clear g10
  have z10_0 : w.heap.size < w10.heap.size := by omega
  have z10_1 : w4.heap.size < w10.heap.size := by omega
  have z10_2 : w4.heap.size + 1 < w10.heap.size := by omega
  go_wp2_with fail
  refine (h_valid K _ _ _ _ ra_10).mono ?_
  rintro e w11 ⟨rfl, g11⟩
  have ra_11 := ra_10.grown (Grew.trans (a := w10) (by (repeat' (first | (with_reducible exact Grew.refl _) | (with_reducible assumption) | (with_reducible refine Grew.alloc ?_ _ _) | (with_reducible refine Grew.drew ?_) | (with_reducible refine Grew.drewN ?_ _) | (with_reducible refine Grew.setCell ?_ ?_ _) | go_size))) g11)
  have rb_11 := rb_10.grown (Grew.trans (a := w10) (by (repeat' (first | (with_reducible exact Grew.refl _) | (with_reducible assumption) | (with_reducible refine Grew.alloc ?_ _ _) | (with_reducible refine Grew.drew ?_) | (with_reducible refine Grew.drewN ?_ _) | (with_reducible refine Grew.setCell ?_ ?_ _) | go_size))) g11)
  obtain ⟨c11, f11, z11⟩ := laid g11
  try simp at z11
  have G11 : Grew w w11 := Grew.trans (by (repeat' (first | (with_reducible exact Grew.refl _) | (with_reducible assumption) | (with_reducible refine Grew.alloc ?_ _ _) | (with_reducible refine Grew.drew ?_) | (with_reducible refine Grew.drewN ?_ _) | (with_reducible refine Grew.setCell ?_ ?_ _) | go_size))) g11
  clear g11
  have z11_0 : w.heap.size < w11.heap.size := by omega
  have z11_1 : w4.heap.size < w11.heap.size := by omega
  have z11_2 : w4.heap.size + 1 < w11.heap.size := by omega
  go_wp2_with fail
  refine (h_invalid K _).mono ?_
  rintro e w12 ⟨rfl, g12⟩
  obtain ⟨c12, f12, z12⟩ := laid g12
  try simp at z12
  have G12 : Grew w w12 := Grew.trans (by (repeat' (first | (with_reducible exact Grew.refl _) | (with_reducible assumption) | (with_reducible refine Grew.alloc ?_ _ _) | (with_reducible refine Grew.drew ?_) | (with_reducible refine Grew.drewN ?_ _) | (with_reducible refine Grew.setCell ?_ ?_ _) | go_size))) g12
  clear g12
  have z12_0 : w.heap.size < w12.heap.size := by omega
  have z12_1 : w4.heap.size < w12.heap.size := by omega
  have z12_2 : w4.heap.size + 1 < w12.heap.size := by omega
  go_wp2_with fail
  go_ret
  exact ⟨rfl, by (repeat' (first | (with_reducible exact Grew.refl _) | (with_reducible assumption) | (with_reducible refine Grew.alloc ?_ _ _) | (with_reducible refine Grew.drew ?_) | (with_reducible refine Grew.drewN ?_ _) | (with_reducible refine Grew.setCell ?_ ?_ _) | go_size))⟩
end Hl
end Go.Proofs.Ythcfbfgfpophmaa
