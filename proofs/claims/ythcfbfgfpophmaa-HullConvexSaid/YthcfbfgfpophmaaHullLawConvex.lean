/-
  The law HullConvex, under what package hull owes.
-/
import Derived.Test.YthcfbfgfpophmaaHullSm
namespace Go.Proofs.Ythcfbfgfpophmaa
open Go.RowKit
namespace Hl

theorem half (n : Int) : (∃ m, n = 2 * m) ∨ n % 2 = 1 := by
  by_cases h : n % 2 = 1
  · exact Or.inr h
  · exact Or.inl ⟨n / 2, by omega⟩
theorem half_of {n m : Int} (h : n = 2 * m) : n.tmod 2 = 0 ∧ n.tdiv 2 = m := by
  subst h
  exact ⟨Int.mul_tmod_right 2 m, by rw [Int.mul_tdiv_cancel_left _ (by decide)]⟩
theorem odd_of {n : Int} (h : n % 2 = 1) : (n.tmod 2 == 0) = false := by
  rw [beq_eq_false_iff_ne]
  intro e
  have := Int.dvd_of_tmod_eq_zero e
  omega
set_option maxRecDepth 100000 in
set_option maxHeartbeats 2000000 in
theorem convex_loop (K : Code) (p : List Pt) (x y : Pt) (v : Value) (w : World) (HS : Hid (Sl w v p)) (H : Hid (p.length ≤ 80)) (V : Hid (Vl p)) (X : Hid (Plc x)) (Y : Hid (Plc y)) (A : Hid (Hs p x)) (B : Hid (Hs p y)) : Calls Try.prog 6 #[v, .agg #[.int .i64 x.1, .int .i64 x.2], .agg #[.int .i64 y.1, .int .i64 y.2]] w fun e w' => e = .returned (.bool true) ∧ Grew w w' := by
  go_enter Try.func6, Try.ntmps6
  go_wp2_with fail
  refine (head_true K _).mono ?_
  rintro e w1 ⟨rfl, g1⟩
  obtain ⟨c1, f1, z1⟩ := laid g1
  try simp at z1
  have G1 : Grew w w1 := Grew.trans (by (repeat' (first | (with_reducible exact Grew.refl _) | (with_reducible assumption) | (with_reducible refine Grew.alloc ?_ _ _) | (with_reducible refine Grew.drew ?_) | (with_reducible refine Grew.drewN ?_ _) | (with_reducible refine Grew.setCell ?_ ?_ _) | go_size))) g1
  clear g1
  have z1_0 : w.heap.size < w1.heap.size := by omega
  have z1_1 : w.heap.size + 1 < w1.heap.size := by omega
  go_wp2_with fail
  refine (few_yes p v _ (HS.out.grown (by (repeat' (first | (with_reducible exact Grew.refl _) | (with_reducible assumption) | (with_reducible refine Grew.alloc ?_ _ _) | (with_reducible refine Grew.drew ?_) | (with_reducible refine Grew.drewN ?_ _) | (with_reducible refine Grew.setCell ?_ ?_ _) | go_size)))) H.out).mono ?_
  rintro e w2 ⟨rfl, g2⟩
  obtain ⟨c2, f2, z2⟩ := laid g2
  try simp at z2
  have G2 : Grew w w2 := Grew.trans (by (repeat' (first | (with_reducible exact Grew.refl _) | (with_reducible assumption) | (with_reducible refine Grew.alloc ?_ _ _) | (with_reducible refine Grew.drew ?_) | (with_reducible refine Grew.drewN ?_ _) | (with_reducible refine Grew.setCell ?_ ?_ _) | go_size))) g2
  clear g2
  have z2_0 : w.heap.size < w2.heap.size := by omega
  have z2_1 : w.heap.size + 1 < w2.heap.size := by omega
  go_wp2_with fail
  refine (rvalid_yes p v _ (HS.out.grown (by (repeat' (first | (with_reducible exact Grew.refl _) | (with_reducible assumption) | (with_reducible refine Grew.alloc ?_ _ _) | (with_reducible refine Grew.drew ?_) | (with_reducible refine Grew.drewN ?_ _) | (with_reducible refine Grew.setCell ?_ ?_ _) | go_size)))) H.out V.out).mono ?_
  rintro e w3 ⟨rfl, g3⟩
  obtain ⟨c3, f3, z3⟩ := laid g3
  try simp at z3
  have G3 : Grew w w3 := Grew.trans (by (repeat' (first | (with_reducible exact Grew.refl _) | (with_reducible assumption) | (with_reducible refine Grew.alloc ?_ _ _) | (with_reducible refine Grew.drew ?_) | (with_reducible refine Grew.drewN ?_ _) | (with_reducible refine Grew.setCell ?_ ?_ _) | go_size))) g3
  clear g3
  have z3_0 : w.heap.size < w3.heap.size := by omega
  have z3_1 : w.heap.size + 1 < w3.heap.size := by omega
  go_wp2_with fail
  refine (rplace_yes x _ X.out).mono ?_
  rintro e w4 ⟨rfl, g4⟩
  obtain ⟨c4, f4, z4⟩ := laid g4
  try simp at z4
  have G4 : Grew w w4 := Grew.trans (by (repeat' (first | (with_reducible exact Grew.refl _) | (with_reducible assumption) | (with_reducible refine Grew.alloc ?_ _ _) | (with_reducible refine Grew.drew ?_) | (with_reducible refine Grew.drewN ?_ _) | (with_reducible refine Grew.setCell ?_ ?_ _) | go_size))) g4
  clear g4
  have z4_0 : w.heap.size < w4.heap.size := by omega
  have z4_1 : w.heap.size + 1 < w4.heap.size := by omega
  go_wp2_with fail
  refine (rplace_yes y _ Y.out).mono ?_
  rintro e w5 ⟨rfl, g5⟩
  obtain ⟨c5, f5, z5⟩ := laid g5
  try simp at z5
  have G5 : Grew w w5 := Grew.trans (by (repeat' (first | (with_reducible exact Grew.refl _) | (with_reducible assumption) | (with_reducible refine Grew.alloc ?_ _ _) | (with_reducible refine Grew.drew ?_) | (with_reducible refine Grew.drewN ?_ _) | (with_reducible refine Grew.setCell ?_ ?_ _) | go_size))) g5
  clear g5
  have z5_0 : w.heap.size < w5.heap.size := by omega
  have z5_1 : w.heap.size + 1 < w5.heap.size := by omega
  go_wp2_with fail
  refine (has_yes K p x v _ (HS.out.grown (by (repeat' (first | (with_reducible exact Grew.refl _) | (with_reducible assumption) | (with_reducible refine Grew.alloc ?_ _ _) | (with_reducible refine Grew.drew ?_) | (with_reducible refine Grew.drewN ?_ _) | (with_reducible refine Grew.setCell ?_ ?_ _) | go_size)))) V.out X.out A.out).mono ?_
  rintro e w6 ⟨rfl, g6⟩
  obtain ⟨c6, f6, z6⟩ := laid g6
  try simp at z6
  have G6 : Grew w w6 := Grew.trans (by (repeat' (first | (with_reducible exact Grew.refl _) | (with_reducible assumption) | (with_reducible refine Grew.alloc ?_ _ _) | (with_reducible refine Grew.drew ?_) | (with_reducible refine Grew.drewN ?_ _) | (with_reducible refine Grew.setCell ?_ ?_ _) | go_size))) g6
  clear g6
  have z6_0 : w.heap.size < w6.heap.size := by omega
  have z6_1 : w.heap.size + 1 < w6.heap.size := by omega
  go_wp2_with fail
  refine (has_yes K p y v _ (HS.out.grown (by (repeat' (first | (with_reducible exact Grew.refl _) | (with_reducible assumption) | (with_reducible refine Grew.alloc ?_ _ _) | (with_reducible refine Grew.drew ?_) | (with_reducible refine Grew.drewN ?_ _) | (with_reducible refine Grew.setCell ?_ ?_ _) | go_size)))) V.out Y.out B.out).mono ?_
  rintro e w7 ⟨rfl, g7⟩
  obtain ⟨c7, f7, z7⟩ := laid g7
  try simp at z7
  have G7 : Grew w w7 := Grew.trans (by (repeat' (first | (with_reducible exact Grew.refl _) | (with_reducible assumption) | (with_reducible refine Grew.alloc ?_ _ _) | (with_reducible refine Grew.drew ?_) | (with_reducible refine Grew.drewN ?_ _) | (with_reducible refine Grew.setCell ?_ ?_ _) | go_size))) g7
  clear g7
  have z7_0 : w.heap.size < w7.heap.size := by omega
  have z7_1 : w.heap.size + 1 < w7.heap.size := by omega
  go_wp2_with fail
  have z0 : w7.cell? ⟨w.heap.size, 0, none⟩ = some (.int .i64 x.1) := by simp [go_sem, *]
  have z1' : w7.cell? ⟨w.heap.size, 1, none⟩ = some (.int .i64 x.2) := by simp [go_sem, *]
  have z2' : w7.cell? ⟨w.heap.size + 1, 0, none⟩ = some (.int .i64 y.1) := by simp [go_sem, *]
  have y0 : w7.frozen? ⟨w.heap.size, 0, none⟩ = false := by simp [go_sem, *]
  have y1' : w7.frozen? ⟨w.heap.size, 1, none⟩ = false := by simp [go_sem, *]
  have z3' : w7.cell? ⟨w.heap.size + 1, 1, none⟩ = some (.int .i64 y.2) := by simp [go_sem, *]
  clear c1 f1 c2 f2 c3 f3 c4 f4 c5 f5 c6 f6 c7 f7
  clear z1 G1 z1_0 z1_1 z2 G2 z2_0 z2_1 z3 G3 z3_0 z3_1 z4 G4 z4_0 z4_1 z5 G5 z5_0 z5_1 z6 G6 z6_0 z6_1
  go_loopw [7, 12] (fun u i wr => ∃ (k : Nat) (z : Pt), k ≤ 20 ∧ u = .bool true ∧ i = .int .i64 k ∧ Grew w wr ∧ w.heap.size + 1 < wr.heap.size ∧ (wr.frozen? ⟨w.heap.size, 0, none⟩ = false ∧ wr.frozen? ⟨w.heap.size, 1, none⟩ = false) ∧ Hid (Plc z ∧ Hs p z) ∧ (wr.cell? ⟨w.heap.size, 0, none⟩ = some (.int .i64 z.1) ∧ wr.cell? ⟨w.heap.size, 1, none⟩ = some (.int .i64 z.2)) ∧ (wr.cell? ⟨w.heap.size + 1, 0, none⟩ = some (.int .i64 y.1) ∧ wr.cell? ⟨w.heap.size + 1, 1, none⟩ = some (.int .i64 y.2))) (fun _ i _ => 20 - (intOf i).toNat)
  case atStart => exact ⟨0, x, by omega, rfl, rfl, G7, by omega, ⟨y0, y1'⟩, Lib.hid ⟨X.out, A.out⟩, ⟨z0, z1'⟩, ⟨z2', z3'⟩⟩
  case round =>
    clear y0 y1' z0 z1' z2' z3' z7 z7_0 z7_1 G7
    obtain ⟨k, z, hk, rfl, rfl, G, hsz, ⟨r0, r1⟩, D, ⟨q0, q1⟩, ⟨q2, q3⟩⟩ := hrel
    have hsz0 : w.heap.size < wr.heap.size := by omega
    obtain ⟨⟨bx0, bx1⟩, ⟨bx2, bx3⟩⟩ := D.out.1
    obtain ⟨⟨by0, by1⟩, ⟨by2, by3⟩⟩ := Y.out
    by_cases hlt : k < 20
    · rcases half (z.1 + y.1) with ⟨m1, e1⟩ | e1
      · rcases half (z.2 + y.2) with ⟨m2, e2⟩ | e2
        · obtain ⟨t1, d1⟩ := half_of e1
          obtain ⟨t2, d2⟩ := half_of e2
          have M : Hid (Plc (m1, m2) ∧ Hs p (m1, m2)) := Lib.hid ⟨⟨⟨by show -500000 ≤ m1; omega, by show m1 ≤ 500000; omega⟩, ⟨by show -500000 ≤ m2; omega, by show m2 ≤ 500000; omega⟩⟩, hs_mid D.out.2 B.out e1.symm e2.symm⟩
          have n0 : -500000 ≤ m1 := by omega
          have n1 : m1 ≤ 500000 := by omega
          have n2 : -500000 ≤ m2 := by omega
          have n3 : m2 ≤ 500000 := by omega
          clear e1 e2
          go_wp2_with fail
          refine (has_yes K p (m1, m2) v _ (HS.out.grown (by (repeat' (first | (with_reducible exact Grew.refl _) | (with_reducible assumption) | (with_reducible refine Grew.alloc ?_ _ _) | (with_reducible refine Grew.drew ?_) | (with_reducible refine Grew.drewN ?_ _) | (with_reducible refine Grew.setCell ?_ ?_ _) | go_size)))) V.out M.out.1 M.out.2).mono ?_
          rintro e w8 ⟨rfl, g8⟩
          obtain ⟨c8, f8, z8⟩ := laid g8
          try simp at z8
          have G8 : Grew w w8 := Grew.trans (by (repeat' (first | (with_reducible exact Grew.refl _) | (with_reducible assumption) | (with_reducible refine Grew.alloc ?_ _ _) | (with_reducible refine Grew.drew ?_) | (with_reducible refine Grew.drewN ?_ _) | (with_reducible refine Grew.setCell ?_ ?_ _) | go_size))) g8
          clear g8
          go_wp2_with fail
          go_roundw
          case rel => exact ⟨k + 1, (m1, m2), by omega, rfl, by go_num, G8, by omega, ⟨by simp [go_sem, *], by simp [go_sem, *]⟩, M, ⟨by simp [go_sem, *], by simp [go_sem, *]⟩, ⟨by simp [go_sem, *], by simp [go_sem, *]⟩⟩
          case measure => simp [intOf]; omega
        · have t2 := odd_of e2
          obtain ⟨t1, d1⟩ := half_of e1
          clear e1 e2
          go_wp2_with fail
          go_ret
          exact ⟨rfl, G⟩
      · have t1 := odd_of e1
        clear e1
        go_wp2_with fail
        go_ret
        exact ⟨rfl, G⟩
    · go_wp2_with fail
      go_ret
      exact ⟨rfl, G⟩

set_option maxRecDepth 100000 in
set_option maxHeartbeats 4000000 in
theorem convex_true (K : Code) (p : List Pt) (x y : Pt) (v : Value) (w : World) (hs : Sl w v p) : Calls Try.prog 6 #[v, .agg #[.int .i64 x.1, .int .i64 x.2], .agg #[.int .i64 y.1, .int .i64 y.2]] w fun e w' => e = .returned (.bool true) ∧ Grew w w' := by
  have HS := Lib.hid hs
  clear hs
  by_cases h : p.length ≤ 80
  · have H := Lib.hid h
    clear h
    by_cases hv : Vl p
    · have V := Lib.hid hv
      clear hv
      by_cases hx : Plc x
      · have X := Lib.hid hx
        clear hx
        by_cases hy : Plc y
        · have Y := Lib.hid hy
          clear hy
          by_cases ha : Hs p x
          · have A := Lib.hid ha
            clear ha
            by_cases hb : Hs p y
            · exact convex_loop K p x y v w HS H V X Y A (Lib.hid hb)
            · have B := Lib.hid hb
              clear hb
              go_enter Try.func6, Try.ntmps6
              go_wp2_with fail
              refine (head_true K _).mono ?_
              rintro e w1 ⟨rfl, g1⟩
              obtain ⟨c1, f1, z1⟩ := laid g1
              try simp at z1
              have G1 : Grew w w1 := Grew.trans (by (repeat' (first | (with_reducible exact Grew.refl _) | (with_reducible assumption) | (with_reducible refine Grew.alloc ?_ _ _) | (with_reducible refine Grew.drew ?_) | (with_reducible refine Grew.drewN ?_ _) | (with_reducible refine Grew.setCell ?_ ?_ _) | go_size))) g1
              clear g1
              have z1_0 : w.heap.size < w1.heap.size := by omega
              have z1_1 : w.heap.size + 1 < w1.heap.size := by omega
              go_wp2_with fail
              refine (few_yes p v _ (HS.out.grown (by (repeat' (first | (with_reducible exact Grew.refl _) | (with_reducible assumption) | (with_reducible refine Grew.alloc ?_ _ _) | (with_reducible refine Grew.drew ?_) | (with_reducible refine Grew.drewN ?_ _) | (with_reducible refine Grew.setCell ?_ ?_ _) | go_size)))) H.out).mono ?_
              rintro e w2 ⟨rfl, g2⟩
              obtain ⟨c2, f2, z2⟩ := laid g2
              try simp at z2
              have G2 : Grew w w2 := Grew.trans (by (repeat' (first | (with_reducible exact Grew.refl _) | (with_reducible assumption) | (with_reducible refine Grew.alloc ?_ _ _) | (with_reducible refine Grew.drew ?_) | (with_reducible refine Grew.drewN ?_ _) | (with_reducible refine Grew.setCell ?_ ?_ _) | go_size))) g2
              clear g2
              have z2_0 : w.heap.size < w2.heap.size := by omega
              have z2_1 : w.heap.size + 1 < w2.heap.size := by omega
              go_wp2_with fail
              refine (rvalid_yes p v _ (HS.out.grown (by (repeat' (first | (with_reducible exact Grew.refl _) | (with_reducible assumption) | (with_reducible refine Grew.alloc ?_ _ _) | (with_reducible refine Grew.drew ?_) | (with_reducible refine Grew.drewN ?_ _) | (with_reducible refine Grew.setCell ?_ ?_ _) | go_size)))) H.out V.out).mono ?_
              rintro e w3 ⟨rfl, g3⟩
              obtain ⟨c3, f3, z3⟩ := laid g3
              try simp at z3
              have G3 : Grew w w3 := Grew.trans (by (repeat' (first | (with_reducible exact Grew.refl _) | (with_reducible assumption) | (with_reducible refine Grew.alloc ?_ _ _) | (with_reducible refine Grew.drew ?_) | (with_reducible refine Grew.drewN ?_ _) | (with_reducible refine Grew.setCell ?_ ?_ _) | go_size))) g3
              clear g3
              have z3_0 : w.heap.size < w3.heap.size := by omega
              have z3_1 : w.heap.size + 1 < w3.heap.size := by omega
              go_wp2_with fail
              refine (rplace_yes x _ X.out).mono ?_
              rintro e w4 ⟨rfl, g4⟩
              obtain ⟨c4, f4, z4⟩ := laid g4
              try simp at z4
              have G4 : Grew w w4 := Grew.trans (by (repeat' (first | (with_reducible exact Grew.refl _) | (with_reducible assumption) | (with_reducible refine Grew.alloc ?_ _ _) | (with_reducible refine Grew.drew ?_) | (with_reducible refine Grew.drewN ?_ _) | (with_reducible refine Grew.setCell ?_ ?_ _) | go_size))) g4
              clear g4
              have z4_0 : w.heap.size < w4.heap.size := by omega
              have z4_1 : w.heap.size + 1 < w4.heap.size := by omega
              go_wp2_with fail
              refine (rplace_yes y _ Y.out).mono ?_
              rintro e w5 ⟨rfl, g5⟩
              obtain ⟨c5, f5, z5⟩ := laid g5
              try simp at z5
              have G5 : Grew w w5 := Grew.trans (by (repeat' (first | (with_reducible exact Grew.refl _) | (with_reducible assumption) | (with_reducible refine Grew.alloc ?_ _ _) | (with_reducible refine Grew.drew ?_) | (with_reducible refine Grew.drewN ?_ _) | (with_reducible refine Grew.setCell ?_ ?_ _) | go_size))) g5
              clear g5
              have z5_0 : w.heap.size < w5.heap.size := by omega
              have z5_1 : w.heap.size + 1 < w5.heap.size := by omega
              go_wp2_with fail
              refine (has_yes K p x v _ (HS.out.grown (by (repeat' (first | (with_reducible exact Grew.refl _) | (with_reducible assumption) | (with_reducible refine Grew.alloc ?_ _ _) | (with_reducible refine Grew.drew ?_) | (with_reducible refine Grew.drewN ?_ _) | (with_reducible refine Grew.setCell ?_ ?_ _) | go_size)))) V.out X.out A.out).mono ?_
              rintro e w6 ⟨rfl, g6⟩
              obtain ⟨c6, f6, z6⟩ := laid g6
              try simp at z6
              have G6 : Grew w w6 := Grew.trans (by (repeat' (first | (with_reducible exact Grew.refl _) | (with_reducible assumption) | (with_reducible refine Grew.alloc ?_ _ _) | (with_reducible refine Grew.drew ?_) | (with_reducible refine Grew.drewN ?_ _) | (with_reducible refine Grew.setCell ?_ ?_ _) | go_size))) g6
              clear g6
              have z6_0 : w.heap.size < w6.heap.size := by omega
              have z6_1 : w.heap.size + 1 < w6.heap.size := by omega
              go_wp2_with fail
              refine (has_no K p y v _ (HS.out.grown (by (repeat' (first | (with_reducible exact Grew.refl _) | (with_reducible assumption) | (with_reducible refine Grew.alloc ?_ _ _) | (with_reducible refine Grew.drew ?_) | (with_reducible refine Grew.drewN ?_ _) | (with_reducible refine Grew.setCell ?_ ?_ _) | go_size)))) V.out Y.out B.out).mono ?_
              rintro e w7 ⟨rfl, g7⟩
              obtain ⟨c7, f7, z7⟩ := laid g7
              try simp at z7
              have G7 : Grew w w7 := Grew.trans (by (repeat' (first | (with_reducible exact Grew.refl _) | (with_reducible assumption) | (with_reducible refine Grew.alloc ?_ _ _) | (with_reducible refine Grew.drew ?_) | (with_reducible refine Grew.drewN ?_ _) | (with_reducible refine Grew.setCell ?_ ?_ _) | go_size))) g7
              clear g7
              have z7_0 : w.heap.size < w7.heap.size := by omega
              have z7_1 : w.heap.size + 1 < w7.heap.size := by omega
              go_wp2_with fail
              refine wp_loop_rounds 1 ?_
              rw [rounds_succ]
              go_wp2_with fail
              go_ret
              exact ⟨rfl, by (repeat' (first | (with_reducible exact Grew.refl _) | (with_reducible assumption) | (with_reducible refine Grew.alloc ?_ _ _) | (with_reducible refine Grew.drew ?_) | (with_reducible refine Grew.drewN ?_ _) | (with_reducible refine Grew.setCell ?_ ?_ _) | go_size))⟩
          · have A := Lib.hid ha
            clear ha
            by_cases hb : Hs p y
            · have B := Lib.hid hb
              clear hb
              go_enter Try.func6, Try.ntmps6
              go_wp2_with fail
              refine (head_true K _).mono ?_
              rintro e w1 ⟨rfl, g1⟩
              obtain ⟨c1, f1, z1⟩ := laid g1
              try simp at z1
              have G1 : Grew w w1 := Grew.trans (by (repeat' (first | (with_reducible exact Grew.refl _) | (with_reducible assumption) | (with_reducible refine Grew.alloc ?_ _ _) | (with_reducible refine Grew.drew ?_) | (with_reducible refine Grew.drewN ?_ _) | (with_reducible refine Grew.setCell ?_ ?_ _) | go_size))) g1
              clear g1
              have z1_0 : w.heap.size < w1.heap.size := by omega
              have z1_1 : w.heap.size + 1 < w1.heap.size := by omega
              go_wp2_with fail
              refine (few_yes p v _ (HS.out.grown (by (repeat' (first | (with_reducible exact Grew.refl _) | (with_reducible assumption) | (with_reducible refine Grew.alloc ?_ _ _) | (with_reducible refine Grew.drew ?_) | (with_reducible refine Grew.drewN ?_ _) | (with_reducible refine Grew.setCell ?_ ?_ _) | go_size)))) H.out).mono ?_
              rintro e w2 ⟨rfl, g2⟩
              obtain ⟨c2, f2, z2⟩ := laid g2
              try simp at z2
              have G2 : Grew w w2 := Grew.trans (by (repeat' (first | (with_reducible exact Grew.refl _) | (with_reducible assumption) | (with_reducible refine Grew.alloc ?_ _ _) | (with_reducible refine Grew.drew ?_) | (with_reducible refine Grew.drewN ?_ _) | (with_reducible refine Grew.setCell ?_ ?_ _) | go_size))) g2
              clear g2
              have z2_0 : w.heap.size < w2.heap.size := by omega
              have z2_1 : w.heap.size + 1 < w2.heap.size := by omega
              go_wp2_with fail
              refine (rvalid_yes p v _ (HS.out.grown (by (repeat' (first | (with_reducible exact Grew.refl _) | (with_reducible assumption) | (with_reducible refine Grew.alloc ?_ _ _) | (with_reducible refine Grew.drew ?_) | (with_reducible refine Grew.drewN ?_ _) | (with_reducible refine Grew.setCell ?_ ?_ _) | go_size)))) H.out V.out).mono ?_
              rintro e w3 ⟨rfl, g3⟩
              obtain ⟨c3, f3, z3⟩ := laid g3
              try simp at z3
              have G3 : Grew w w3 := Grew.trans (by (repeat' (first | (with_reducible exact Grew.refl _) | (with_reducible assumption) | (with_reducible refine Grew.alloc ?_ _ _) | (with_reducible refine Grew.drew ?_) | (with_reducible refine Grew.drewN ?_ _) | (with_reducible refine Grew.setCell ?_ ?_ _) | go_size))) g3
              clear g3
              have z3_0 : w.heap.size < w3.heap.size := by omega
              have z3_1 : w.heap.size + 1 < w3.heap.size := by omega
              go_wp2_with fail
              refine (rplace_yes x _ X.out).mono ?_
              rintro e w4 ⟨rfl, g4⟩
              obtain ⟨c4, f4, z4⟩ := laid g4
              try simp at z4
              have G4 : Grew w w4 := Grew.trans (by (repeat' (first | (with_reducible exact Grew.refl _) | (with_reducible assumption) | (with_reducible refine Grew.alloc ?_ _ _) | (with_reducible refine Grew.drew ?_) | (with_reducible refine Grew.drewN ?_ _) | (with_reducible refine Grew.setCell ?_ ?_ _) | go_size))) g4
              clear g4
              have z4_0 : w.heap.size < w4.heap.size := by omega
              have z4_1 : w.heap.size + 1 < w4.heap.size := by omega
              go_wp2_with fail
              refine (rplace_yes y _ Y.out).mono ?_
              rintro e w5 ⟨rfl, g5⟩
              obtain ⟨c5, f5, z5⟩ := laid g5
              try simp at z5
              have G5 : Grew w w5 := Grew.trans (by (repeat' (first | (with_reducible exact Grew.refl _) | (with_reducible assumption) | (with_reducible refine Grew.alloc ?_ _ _) | (with_reducible refine Grew.drew ?_) | (with_reducible refine Grew.drewN ?_ _) | (with_reducible refine Grew.setCell ?_ ?_ _) | go_size))) g5
              clear g5
              have z5_0 : w.heap.size < w5.heap.size := by omega
              have z5_1 : w.heap.size + 1 < w5.heap.size := by omega
              go_wp2_with fail
              refine (has_no K p x v _ (HS.out.grown (by (repeat' (first | (with_reducible exact Grew.refl _) | (with_reducible assumption) | (with_reducible refine Grew.alloc ?_ _ _) | (with_reducible refine Grew.drew ?_) | (with_reducible refine Grew.drewN ?_ _) | (with_reducible refine Grew.setCell ?_ ?_ _) | go_size)))) V.out X.out A.out).mono ?_
              rintro e w6 ⟨rfl, g6⟩
              obtain ⟨c6, f6, z6⟩ := laid g6
              try simp at z6
              have G6 : Grew w w6 := Grew.trans (by (repeat' (first | (with_reducible exact Grew.refl _) | (with_reducible assumption) | (with_reducible refine Grew.alloc ?_ _ _) | (with_reducible refine Grew.drew ?_) | (with_reducible refine Grew.drewN ?_ _) | (with_reducible refine Grew.setCell ?_ ?_ _) | go_size))) g6
              clear g6
              have z6_0 : w.heap.size < w6.heap.size := by omega
              have z6_1 : w.heap.size + 1 < w6.heap.size := by omega
              go_wp2_with fail
              refine (has_yes K p y v _ (HS.out.grown (by (repeat' (first | (with_reducible exact Grew.refl _) | (with_reducible assumption) | (with_reducible refine Grew.alloc ?_ _ _) | (with_reducible refine Grew.drew ?_) | (with_reducible refine Grew.drewN ?_ _) | (with_reducible refine Grew.setCell ?_ ?_ _) | go_size)))) V.out Y.out B.out).mono ?_
              rintro e w7 ⟨rfl, g7⟩
              obtain ⟨c7, f7, z7⟩ := laid g7
              try simp at z7
              have G7 : Grew w w7 := Grew.trans (by (repeat' (first | (with_reducible exact Grew.refl _) | (with_reducible assumption) | (with_reducible refine Grew.alloc ?_ _ _) | (with_reducible refine Grew.drew ?_) | (with_reducible refine Grew.drewN ?_ _) | (with_reducible refine Grew.setCell ?_ ?_ _) | go_size))) g7
              clear g7
              have z7_0 : w.heap.size < w7.heap.size := by omega
              have z7_1 : w.heap.size + 1 < w7.heap.size := by omega
              go_wp2_with fail
              refine wp_loop_rounds 1 ?_
              rw [rounds_succ]
              go_wp2_with fail
              go_ret
              exact ⟨rfl, by (repeat' (first | (with_reducible exact Grew.refl _) | (with_reducible assumption) | (with_reducible refine Grew.alloc ?_ _ _) | (with_reducible refine Grew.drew ?_) | (with_reducible refine Grew.drewN ?_ _) | (with_reducible refine Grew.setCell ?_ ?_ _) | go_size))⟩
            · have B := Lib.hid hb
              clear hb
              go_enter Try.func6, Try.ntmps6
              go_wp2_with fail
              refine (head_true K _).mono ?_
              rintro e w1 ⟨rfl, g1⟩
              obtain ⟨c1, f1, z1⟩ := laid g1
              try simp at z1
              have G1 : Grew w w1 := Grew.trans (by (repeat' (first | (with_reducible exact Grew.refl _) | (with_reducible assumption) | (with_reducible refine Grew.alloc ?_ _ _) | (with_reducible refine Grew.drew ?_) | (with_reducible refine Grew.drewN ?_ _) | (with_reducible refine Grew.setCell ?_ ?_ _) | go_size))) g1
              clear g1
              have z1_0 : w.heap.size < w1.heap.size := by omega
              have z1_1 : w.heap.size + 1 < w1.heap.size := by omega
              go_wp2_with fail
              refine (few_yes p v _ (HS.out.grown (by (repeat' (first | (with_reducible exact Grew.refl _) | (with_reducible assumption) | (with_reducible refine Grew.alloc ?_ _ _) | (with_reducible refine Grew.drew ?_) | (with_reducible refine Grew.drewN ?_ _) | (with_reducible refine Grew.setCell ?_ ?_ _) | go_size)))) H.out).mono ?_
              rintro e w2 ⟨rfl, g2⟩
              obtain ⟨c2, f2, z2⟩ := laid g2
              try simp at z2
              have G2 : Grew w w2 := Grew.trans (by (repeat' (first | (with_reducible exact Grew.refl _) | (with_reducible assumption) | (with_reducible refine Grew.alloc ?_ _ _) | (with_reducible refine Grew.drew ?_) | (with_reducible refine Grew.drewN ?_ _) | (with_reducible refine Grew.setCell ?_ ?_ _) | go_size))) g2
              clear g2
              have z2_0 : w.heap.size < w2.heap.size := by omega
              have z2_1 : w.heap.size + 1 < w2.heap.size := by omega
              go_wp2_with fail
              refine (rvalid_yes p v _ (HS.out.grown (by (repeat' (first | (with_reducible exact Grew.refl _) | (with_reducible assumption) | (with_reducible refine Grew.alloc ?_ _ _) | (with_reducible refine Grew.drew ?_) | (with_reducible refine Grew.drewN ?_ _) | (with_reducible refine Grew.setCell ?_ ?_ _) | go_size)))) H.out V.out).mono ?_
              rintro e w3 ⟨rfl, g3⟩
              obtain ⟨c3, f3, z3⟩ := laid g3
              try simp at z3
              have G3 : Grew w w3 := Grew.trans (by (repeat' (first | (with_reducible exact Grew.refl _) | (with_reducible assumption) | (with_reducible refine Grew.alloc ?_ _ _) | (with_reducible refine Grew.drew ?_) | (with_reducible refine Grew.drewN ?_ _) | (with_reducible refine Grew.setCell ?_ ?_ _) | go_size))) g3
              clear g3
              have z3_0 : w.heap.size < w3.heap.size := by omega
              have z3_1 : w.heap.size + 1 < w3.heap.size := by omega
              go_wp2_with fail
              refine (rplace_yes x _ X.out).mono ?_
              rintro e w4 ⟨rfl, g4⟩
              obtain ⟨c4, f4, z4⟩ := laid g4
              try simp at z4
              have G4 : Grew w w4 := Grew.trans (by (repeat' (first | (with_reducible exact Grew.refl _) | (with_reducible assumption) | (with_reducible refine Grew.alloc ?_ _ _) | (with_reducible refine Grew.drew ?_) | (with_reducible refine Grew.drewN ?_ _) | (with_reducible refine Grew.setCell ?_ ?_ _) | go_size))) g4
              clear g4
              have z4_0 : w.heap.size < w4.heap.size := by omega
              have z4_1 : w.heap.size + 1 < w4.heap.size := by omega
              go_wp2_with fail
              refine (rplace_yes y _ Y.out).mono ?_
              rintro e w5 ⟨rfl, g5⟩
              obtain ⟨c5, f5, z5⟩ := laid g5
              try simp at z5
              have G5 : Grew w w5 := Grew.trans (by (repeat' (first | (with_reducible exact Grew.refl _) | (with_reducible assumption) | (with_reducible refine Grew.alloc ?_ _ _) | (with_reducible refine Grew.drew ?_) | (with_reducible refine Grew.drewN ?_ _) | (with_reducible refine Grew.setCell ?_ ?_ _) | go_size))) g5
              clear g5
              have z5_0 : w.heap.size < w5.heap.size := by omega
              have z5_1 : w.heap.size + 1 < w5.heap.size := by omega
              go_wp2_with fail
              refine (has_no K p x v _ (HS.out.grown (by (repeat' (first | (with_reducible exact Grew.refl _) | (with_reducible assumption) | (with_reducible refine Grew.alloc ?_ _ _) | (with_reducible refine Grew.drew ?_) | (with_reducible refine Grew.drewN ?_ _) | (with_reducible refine Grew.setCell ?_ ?_ _) | go_size)))) V.out X.out A.out).mono ?_
              rintro e w6 ⟨rfl, g6⟩
              obtain ⟨c6, f6, z6⟩ := laid g6
              try simp at z6
              have G6 : Grew w w6 := Grew.trans (by (repeat' (first | (with_reducible exact Grew.refl _) | (with_reducible assumption) | (with_reducible refine Grew.alloc ?_ _ _) | (with_reducible refine Grew.drew ?_) | (with_reducible refine Grew.drewN ?_ _) | (with_reducible refine Grew.setCell ?_ ?_ _) | go_size))) g6
              clear g6
              have z6_0 : w.heap.size < w6.heap.size := by omega
              have z6_1 : w.heap.size + 1 < w6.heap.size := by omega
              go_wp2_with fail
              refine (has_no K p y v _ (HS.out.grown (by (repeat' (first | (with_reducible exact Grew.refl _) | (with_reducible assumption) | (with_reducible refine Grew.alloc ?_ _ _) | (with_reducible refine Grew.drew ?_) | (with_reducible refine Grew.drewN ?_ _) | (with_reducible refine Grew.setCell ?_ ?_ _) | go_size)))) V.out Y.out B.out).mono ?_
              rintro e w7 ⟨rfl, g7⟩
              obtain ⟨c7, f7, z7⟩ := laid g7
              try simp at z7
              have G7 : Grew w w7 := Grew.trans (by (repeat' (first | (with_reducible exact Grew.refl _) | (with_reducible assumption) | (with_reducible refine Grew.alloc ?_ _ _) | (with_reducible refine Grew.drew ?_) | (with_reducible refine Grew.drewN ?_ _) | (with_reducible refine Grew.setCell ?_ ?_ _) | go_size))) g7
              clear g7
              have z7_0 : w.heap.size < w7.heap.size := by omega
              have z7_1 : w.heap.size + 1 < w7.heap.size := by omega
              go_wp2_with fail
              refine wp_loop_rounds 1 ?_
              rw [rounds_succ]
              go_wp2_with fail
              go_ret
              exact ⟨rfl, by (repeat' (first | (with_reducible exact Grew.refl _) | (with_reducible assumption) | (with_reducible refine Grew.alloc ?_ _ _) | (with_reducible refine Grew.drew ?_) | (with_reducible refine Grew.drewN ?_ _) | (with_reducible refine Grew.setCell ?_ ?_ _) | go_size))⟩
        · have Y := Lib.hid hy
          clear hy
          go_enter Try.func6, Try.ntmps6
          go_wp2_with fail
          refine (head_true K _).mono ?_
          rintro e w1 ⟨rfl, g1⟩
          obtain ⟨c1, f1, z1⟩ := laid g1
          try simp at z1
          have G1 : Grew w w1 := Grew.trans (by (repeat' (first | (with_reducible exact Grew.refl _) | (with_reducible assumption) | (with_reducible refine Grew.alloc ?_ _ _) | (with_reducible refine Grew.drew ?_) | (with_reducible refine Grew.drewN ?_ _) | (with_reducible refine Grew.setCell ?_ ?_ _) | go_size))) g1
          clear g1
          have z1_0 : w.heap.size < w1.heap.size := by omega
          have z1_1 : w.heap.size + 1 < w1.heap.size := by omega
          go_wp2_with fail
          refine (few_yes p v _ (HS.out.grown (by (repeat' (first | (with_reducible exact Grew.refl _) | (with_reducible assumption) | (with_reducible refine Grew.alloc ?_ _ _) | (with_reducible refine Grew.drew ?_) | (with_reducible refine Grew.drewN ?_ _) | (with_reducible refine Grew.setCell ?_ ?_ _) | go_size)))) H.out).mono ?_
          rintro e w2 ⟨rfl, g2⟩
          obtain ⟨c2, f2, z2⟩ := laid g2
          try simp at z2
          have G2 : Grew w w2 := Grew.trans (by (repeat' (first | (with_reducible exact Grew.refl _) | (with_reducible assumption) | (with_reducible refine Grew.alloc ?_ _ _) | (with_reducible refine Grew.drew ?_) | (with_reducible refine Grew.drewN ?_ _) | (with_reducible refine Grew.setCell ?_ ?_ _) | go_size))) g2
          clear g2
          have z2_0 : w.heap.size < w2.heap.size := by omega
          have z2_1 : w.heap.size + 1 < w2.heap.size := by omega
          go_wp2_with fail
          refine (rvalid_yes p v _ (HS.out.grown (by (repeat' (first | (with_reducible exact Grew.refl _) | (with_reducible assumption) | (with_reducible refine Grew.alloc ?_ _ _) | (with_reducible refine Grew.drew ?_) | (with_reducible refine Grew.drewN ?_ _) | (with_reducible refine Grew.setCell ?_ ?_ _) | go_size)))) H.out V.out).mono ?_
          rintro e w3 ⟨rfl, g3⟩
          obtain ⟨c3, f3, z3⟩ := laid g3
          try simp at z3
          have G3 : Grew w w3 := Grew.trans (by (repeat' (first | (with_reducible exact Grew.refl _) | (with_reducible assumption) | (with_reducible refine Grew.alloc ?_ _ _) | (with_reducible refine Grew.drew ?_) | (with_reducible refine Grew.drewN ?_ _) | (with_reducible refine Grew.setCell ?_ ?_ _) | go_size))) g3
          clear g3
          have z3_0 : w.heap.size < w3.heap.size := by omega
          have z3_1 : w.heap.size + 1 < w3.heap.size := by omega
          go_wp2_with fail
          refine (rplace_yes x _ X.out).mono ?_
          rintro e w4 ⟨rfl, g4⟩
          obtain ⟨c4, f4, z4⟩ := laid g4
          try simp at z4
          have G4 : Grew w w4 := Grew.trans (by (repeat' (first | (with_reducible exact Grew.refl _) | (with_reducible assumption) | (with_reducible refine Grew.alloc ?_ _ _) | (with_reducible refine Grew.drew ?_) | (with_reducible refine Grew.drewN ?_ _) | (with_reducible refine Grew.setCell ?_ ?_ _) | go_size))) g4
          clear g4
          have z4_0 : w.heap.size < w4.heap.size := by omega
          have z4_1 : w.heap.size + 1 < w4.heap.size := by omega
          go_wp2_with fail
          refine (rplace_no y _ Y.out).mono ?_
          rintro e w5 ⟨rfl, g5⟩
          obtain ⟨c5, f5, z5⟩ := laid g5
          try simp at z5
          have G5 : Grew w w5 := Grew.trans (by (repeat' (first | (with_reducible exact Grew.refl _) | (with_reducible assumption) | (with_reducible refine Grew.alloc ?_ _ _) | (with_reducible refine Grew.drew ?_) | (with_reducible refine Grew.drewN ?_ _) | (with_reducible refine Grew.setCell ?_ ?_ _) | go_size))) g5
          clear g5
          have z5_0 : w.heap.size < w5.heap.size := by omega
          have z5_1 : w.heap.size + 1 < w5.heap.size := by omega
          go_wp2_with fail
          go_ret
          exact ⟨rfl, by (repeat' (first | (with_reducible exact Grew.refl _) | (with_reducible assumption) | (with_reducible refine Grew.alloc ?_ _ _) | (with_reducible refine Grew.drew ?_) | (with_reducible refine Grew.drewN ?_ _) | (with_reducible refine Grew.setCell ?_ ?_ _) | go_size))⟩
      · have X := Lib.hid hx
        clear hx
        go_enter Try.func6, Try.ntmps6
        go_wp2_with fail
        refine (head_true K _).mono ?_
        rintro e w1 ⟨rfl, g1⟩
        obtain ⟨c1, f1, z1⟩ := laid g1
        try simp at z1
        have G1 : Grew w w1 := Grew.trans (by (repeat' (first | (with_reducible exact Grew.refl _) | (with_reducible assumption) | (with_reducible refine Grew.alloc ?_ _ _) | (with_reducible refine Grew.drew ?_) | (with_reducible refine Grew.drewN ?_ _) | (with_reducible refine Grew.setCell ?_ ?_ _) | go_size))) g1
        clear g1
        have z1_0 : w.heap.size < w1.heap.size := by omega
        have z1_1 : w.heap.size + 1 < w1.heap.size := by omega
        go_wp2_with fail
        refine (few_yes p v _ (HS.out.grown (by (repeat' (first | (with_reducible exact Grew.refl _) | (with_reducible assumption) | (with_reducible refine Grew.alloc ?_ _ _) | (with_reducible refine Grew.drew ?_) | (with_reducible refine Grew.drewN ?_ _) | (with_reducible refine Grew.setCell ?_ ?_ _) | go_size)))) H.out).mono ?_
        rintro e w2 ⟨rfl, g2⟩
        obtain ⟨c2, f2, z2⟩ := laid g2
        try simp at z2
        have G2 : Grew w w2 := Grew.trans (by (repeat' (first | (with_reducible exact Grew.refl _) | (with_reducible assumption) | (with_reducible refine Grew.alloc ?_ _ _) | (with_reducible refine Grew.drew ?_) | (with_reducible refine Grew.drewN ?_ _) | (with_reducible refine Grew.setCell ?_ ?_ _) | go_size))) g2
        clear g2
        have z2_0 : w.heap.size < w2.heap.size := by omega
        have z2_1 : w.heap.size + 1 < w2.heap.size := by omega
        go_wp2_with fail
        refine (rvalid_yes p v _ (HS.out.grown (by (repeat' (first | (with_reducible exact Grew.refl _) | (with_reducible assumption) | (with_reducible refine Grew.alloc ?_ _ _) | (with_reducible refine Grew.drew ?_) | (with_reducible refine Grew.drewN ?_ _) | (with_reducible refine Grew.setCell ?_ ?_ _) | go_size)))) H.out V.out).mono ?_
        rintro e w3 ⟨rfl, g3⟩
        obtain ⟨c3, f3, z3⟩ := laid g3
        try simp at z3
        have G3 : Grew w w3 := Grew.trans (by (repeat' (first | (with_reducible exact Grew.refl _) | (with_reducible assumption) | (with_reducible refine Grew.alloc ?_ _ _) | (with_reducible refine Grew.drew ?_) | (with_reducible refine Grew.drewN ?_ _) | (with_reducible refine Grew.setCell ?_ ?_ _) | go_size))) g3
        clear g3
        have z3_0 : w.heap.size < w3.heap.size := by omega
        have z3_1 : w.heap.size + 1 < w3.heap.size := by omega
        go_wp2_with fail
        refine (rplace_no x _ X.out).mono ?_
        rintro e w4 ⟨rfl, g4⟩
        obtain ⟨c4, f4, z4⟩ := laid g4
        try simp at z4
        have G4 : Grew w w4 := Grew.trans (by (repeat' (first | (with_reducible exact Grew.refl _) | (with_reducible assumption) | (with_reducible refine Grew.alloc ?_ _ _) | (with_reducible refine Grew.drew ?_) | (with_reducible refine Grew.drewN ?_ _) | (with_reducible refine Grew.setCell ?_ ?_ _) | go_size))) g4
        clear g4
        have z4_0 : w.heap.size < w4.heap.size := by omega
        have z4_1 : w.heap.size + 1 < w4.heap.size := by omega
        go_wp2_with fail
        go_ret
        exact ⟨rfl, by (repeat' (first | (with_reducible exact Grew.refl _) | (with_reducible assumption) | (with_reducible refine Grew.alloc ?_ _ _) | (with_reducible refine Grew.drew ?_) | (with_reducible refine Grew.drewN ?_ _) | (with_reducible refine Grew.setCell ?_ ?_ _) | go_size))⟩
    · have N := Lib.hid hv
      clear hv
      go_enter Try.func6, Try.ntmps6
      go_wp2_with fail
      refine (head_true K _).mono ?_
      rintro e w1 ⟨rfl, g1⟩
      obtain ⟨c1, f1, z1⟩ := laid g1
      try simp at z1
      have G1 : Grew w w1 := Grew.trans (by (repeat' (first | (with_reducible exact Grew.refl _) | (with_reducible assumption) | (with_reducible refine Grew.alloc ?_ _ _) | (with_reducible refine Grew.drew ?_) | (with_reducible refine Grew.drewN ?_ _) | (with_reducible refine Grew.setCell ?_ ?_ _) | go_size))) g1
      clear g1
      have z1_0 : w.heap.size < w1.heap.size := by omega
      have z1_1 : w.heap.size + 1 < w1.heap.size := by omega
      go_wp2_with fail
      refine (few_yes p v _ (HS.out.grown (by (repeat' (first | (with_reducible exact Grew.refl _) | (with_reducible assumption) | (with_reducible refine Grew.alloc ?_ _ _) | (with_reducible refine Grew.drew ?_) | (with_reducible refine Grew.drewN ?_ _) | (with_reducible refine Grew.setCell ?_ ?_ _) | go_size)))) H.out).mono ?_
      rintro e w2 ⟨rfl, g2⟩
      obtain ⟨c2, f2, z2⟩ := laid g2
      try simp at z2
      have G2 : Grew w w2 := Grew.trans (by (repeat' (first | (with_reducible exact Grew.refl _) | (with_reducible assumption) | (with_reducible refine Grew.alloc ?_ _ _) | (with_reducible refine Grew.drew ?_) | (with_reducible refine Grew.drewN ?_ _) | (with_reducible refine Grew.setCell ?_ ?_ _) | go_size))) g2
      clear g2
      have z2_0 : w.heap.size < w2.heap.size := by omega
      have z2_1 : w.heap.size + 1 < w2.heap.size := by omega
      go_wp2_with fail
      refine (rvalid_no p v _ (HS.out.grown (by (repeat' (first | (with_reducible exact Grew.refl _) | (with_reducible assumption) | (with_reducible refine Grew.alloc ?_ _ _) | (with_reducible refine Grew.drew ?_) | (with_reducible refine Grew.drewN ?_ _) | (with_reducible refine Grew.setCell ?_ ?_ _) | go_size)))) H.out N.out).mono ?_
      rintro e w3 ⟨rfl, g3⟩
      obtain ⟨c3, f3, z3⟩ := laid g3
      try simp at z3
      have G3 : Grew w w3 := Grew.trans (by (repeat' (first | (with_reducible exact Grew.refl _) | (with_reducible assumption) | (with_reducible refine Grew.alloc ?_ _ _) | (with_reducible refine Grew.drew ?_) | (with_reducible refine Grew.drewN ?_ _) | (with_reducible refine Grew.setCell ?_ ?_ _) | go_size))) g3
      clear g3
      have z3_0 : w.heap.size < w3.heap.size := by omega
      have z3_1 : w.heap.size + 1 < w3.heap.size := by omega
      go_wp2_with fail
      go_ret
      exact ⟨rfl, by (repeat' (first | (with_reducible exact Grew.refl _) | (with_reducible assumption) | (with_reducible refine Grew.alloc ?_ _ _) | (with_reducible refine Grew.drew ?_) | (with_reducible refine Grew.drewN ?_ _) | (with_reducible refine Grew.setCell ?_ ?_ _) | go_size))⟩
  · have H := Lib.hid h
    clear h
    go_enter Try.func6, Try.ntmps6
    go_wp2_with fail
    refine (head_true K _).mono ?_
    rintro e w1 ⟨rfl, g1⟩
    obtain ⟨c1, f1, z1⟩ := laid g1
    try simp at z1
    have G1 : Grew w w1 := Grew.trans (by (repeat' (first | (with_reducible exact Grew.refl _) | (with_reducible assumption) | (with_reducible refine Grew.alloc ?_ _ _) | (with_reducible refine Grew.drew ?_) | (with_reducible refine Grew.drewN ?_ _) | (with_reducible refine Grew.setCell ?_ ?_ _) | go_size))) g1
    clear g1
    have z1_0 : w.heap.size < w1.heap.size := by omega
    have z1_1 : w.heap.size + 1 < w1.heap.size := by omega
    go_wp2_with fail
    refine (few_no p v _ (HS.out.grown (by (repeat' (first | (with_reducible exact Grew.refl _) | (with_reducible assumption) | (with_reducible refine Grew.alloc ?_ _ _) | (with_reducible refine Grew.drew ?_) | (with_reducible refine Grew.drewN ?_ _) | (with_reducible refine Grew.setCell ?_ ?_ _) | go_size)))) H.out).mono ?_
    rintro e w2 ⟨rfl, g2⟩
    obtain ⟨c2, f2, z2⟩ := laid g2
    try simp at z2
    have G2 : Grew w w2 := Grew.trans (by (repeat' (first | (with_reducible exact Grew.refl _) | (with_reducible assumption) | (with_reducible refine Grew.alloc ?_ _ _) | (with_reducible refine Grew.drew ?_) | (with_reducible refine Grew.drewN ?_ _) | (with_reducible refine Grew.setCell ?_ ?_ _) | go_size))) g2
    clear g2
    have z2_0 : w.heap.size < w2.heap.size := by omega
    have z2_1 : w.heap.size + 1 < w2.heap.size := by omega
    go_wp2_with fail
    go_ret
    exact ⟨rfl, by (repeat' (first | (with_reducible exact Grew.refl _) | (with_reducible assumption) | (with_reducible refine Grew.alloc ?_ _ _) | (with_reducible refine Grew.drew ?_) | (with_reducible refine Grew.drewN ?_ _) | (with_reducible refine Grew.setCell ?_ ?_ _) | go_size))⟩
end Hl
end Go.Proofs.Ythcfbfgfpophmaa
