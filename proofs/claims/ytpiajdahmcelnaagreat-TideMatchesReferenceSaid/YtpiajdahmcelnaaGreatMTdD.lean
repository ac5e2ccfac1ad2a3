/-
  The landed package tide: rectangles, the block of a place in the slot of a time, how far a current carries.
-/
import Derived.Test.YtpiajdahmcelnaaGreatMTdC
namespace Go.Proofs.YtpiajdahmcelnaaGreat
open Go.RowKit Hl
namespace Td
set_option maxRecDepth 100000

def Rec (lo hi : Pt) : Prop := Plc lo ∧ Plc hi ∧ lo.1 ≤ hi.1 ∧ lo.2 ≤ hi.2
instance (lo hi : Pt) : Decidable (Rec lo hi) := by unfold Rec; infer_instance
def Tms (a b : Int) : Prop := 0 ≤ a ∧ a ≤ b ∧ b ≤ 1000000000
instance (a b : Int) : Decidable (Tms a b) := by unfold Tms; infer_instance
def bk (c : Int) : Int := c / 10000
def sl (z c : Int) : Int := (c - z) / 3600
theorem rec_and (lo hi : Pt) : decide (Rec lo hi) = (decide (Plc lo) && (decide (Plc hi) && (decide (lo.1 ≤ hi.1) && decide (lo.2 ≤ hi.2)))) := by
  rw [Bool.eq_iff_iff]
  simp only [Bool.and_eq_true, decide_eq_true_eq]
  rfl
theorem bk_fl (c : Int) : Ex.fl c 10000 = bk c := by unfold Ex.fl bk; rw [if_pos (by decide)]
theorem sl_fl (z c : Int) : Ex.fl (c - z) 3600 = sl z c := by unfold Ex.fl sl; rw [if_pos (by decide)]
set_option maxHeartbeats 2000000 in
theorem isRectangle_c (K : Hl.Code) (lo hi : Pt) (w : World) : Calls Tryz.prog 28 #[.agg #[.int .i64 lo.1, .int .i64 lo.2], .agg #[.int .i64 hi.1, .int .i64 hi.2]] w fun e w' => e = .returned (.bool (decide (Rec lo hi))) ∧ Grew w w' := by
  rw [rec_and]
  have C1 := Lib.hid (isPlace_c K lo)
  have C2 := Lib.hid (isPlace_c K hi)
  clear K
  rcases lo with ⟨a, b⟩
  rcases hi with ⟨c, d⟩
  simp only at *
  generalize decide (Plc (a, b)) = r1 at *
  generalize decide (Plc (c, d)) = r2 at *
  obtain ⟨r3, h3⟩ : ∃ r3, decide (a ≤ c) = r3 := ⟨_, rfl⟩
  obtain ⟨r4, h4⟩ : ∃ r4, decide (b ≤ d) = r4 := ⟨_, rfl⟩
  rw [h3, h4]
  have H3 := Lib.hid h3
  have H4 := Lib.hid h4
  clear h3 h4
  go_enter Tryz.func28, Tryz.ntmps28
  go_wp2_with fail
  refine (C1.out _).mono ?_
  rintro e w1 ⟨rfl, g1⟩
  obtain ⟨c1, f1, z1⟩ := laid g1
  try simp at z1
  have G1 : Grew w w1 := Grew.trans (by (repeat' (first | (with_reducible exact Grew.refl _) | (with_reducible assumption) | (with_reducible refine Grew.alloc ?_ _ _) | (with_reducible refine Grew.drew ?_) | (with_reducible refine Grew.drewN ?_ _) | (with_reducible refine Grew.setCell ?_ ?_ _) | go_size))) g1
  clear g1
  have z1_0 : w.heap.size < w1.heap.size := by omega
  have z1_1 : w.heap.size + 1 < w1.heap.size := by omega
  cases r1
  · go_wp2_with fail
    go_ret
    exact ⟨by first | rfl | (simp; done) | (simp; omega), (by (repeat' (first | (with_reducible exact Grew.refl _) | (with_reducible assumption) | (with_reducible refine Grew.alloc ?_ _ _) | (with_reducible refine Grew.drew ?_) | (with_reducible refine Grew.drewN ?_ _) | (with_reducible refine Grew.setCell ?_ ?_ _) | go_size)))⟩
  · go_wp2_with fail
    refine (C2.out _).mono ?_
    rintro e w2 ⟨rfl, g2⟩
    obtain ⟨c2, f2, z2⟩ := laid g2
    try simp at z2
    have G2 : Grew w w2 := Grew.trans (by (repeat' (first | (with_reducible exact Grew.refl _) | (with_reducible assumption) | (with_reducible refine Grew.alloc ?_ _ _) | (with_reducible refine Grew.drew ?_) | (with_reducible refine Grew.drewN ?_ _) | (with_reducible refine Grew.setCell ?_ ?_ _) | go_size))) g2
    clear g2
    have z2_0 : w.heap.size < w2.heap.size := by omega
    have z2_1 : w.heap.size + 1 < w2.heap.size := by omega
    cases r2
    · go_wp2_with fail
      go_ret
      exact ⟨by first | rfl | (simp; done) | (simp; omega), (by (repeat' (first | (with_reducible exact Grew.refl _) | (with_reducible assumption) | (with_reducible refine Grew.alloc ?_ _ _) | (with_reducible refine Grew.drew ?_) | (with_reducible refine Grew.drewN ?_ _) | (with_reducible refine Grew.setCell ?_ ?_ _) | go_size)))⟩
    · by_cases e3 : a ≤ c
      · obtain rfl : r3 = true := by rw [← H3.out]; exact decide_eq_true e3
        by_cases e4 : b ≤ d
        · obtain rfl : r4 = true := by rw [← H4.out]; exact decide_eq_true e4
          go_wp2_with fail
          go_ret
          exact ⟨by first | rfl | (simp; done) | (simp; omega), (by (repeat' (first | (with_reducible exact Grew.refl _) | (with_reducible assumption) | (with_reducible refine Grew.alloc ?_ _ _) | (with_reducible refine Grew.drew ?_) | (with_reducible refine Grew.drewN ?_ _) | (with_reducible refine Grew.setCell ?_ ?_ _) | go_size)))⟩
        · obtain rfl : r4 = false := by rw [← H4.out]; exact decide_eq_false e4
          go_wp2_with fail
          go_ret
          exact ⟨by first | rfl | (simp; done) | (simp; omega), (by (repeat' (first | (with_reducible exact Grew.refl _) | (with_reducible assumption) | (with_reducible refine Grew.alloc ?_ _ _) | (with_reducible refine Grew.drew ?_) | (with_reducible refine Grew.drewN ?_ _) | (with_reducible refine Grew.setCell ?_ ?_ _) | go_size)))⟩
      · obtain rfl : r3 = false := by rw [← H3.out]; exact decide_eq_false e3
        go_wp2_with fail
        go_ret
        exact ⟨by first | rfl | (simp; done) | (simp; omega), (by (repeat' (first | (with_reducible exact Grew.refl _) | (with_reducible assumption) | (with_reducible refine Grew.alloc ?_ _ _) | (with_reducible refine Grew.drew ?_) | (with_reducible refine Grew.drewN ?_ _) | (with_reducible refine Grew.setCell ?_ ?_ _) | go_size)))⟩
theorem place_b (x : Pt) (w : World) : Calls Tryz.prog 19 #[.agg #[.int .i64 x.1, .int .i64 x.2]] w fun e w' => e = .returned (.bool (decide (Plc x))) ∧ Grew w w' := by
  by_cases h : Plc x
  · rw [decide_eq_true h]
    exact place_yes x.1 x.2 w h
  · rw [decide_eq_false h]
    exact place_no x.1 x.2 w h
set_option maxHeartbeats 2000000 in
theorem rectangle_c (lo hi : Pt) (w : World) : Calls Tryz.prog 17 #[.agg #[.int .i64 lo.1, .int .i64 lo.2], .agg #[.int .i64 hi.1, .int .i64 hi.2]] w fun e w' => e = .returned (.bool (decide (Rec lo hi))) ∧ Grew w w' := by
  rw [rec_and]
  have C1 := Lib.hid (place_b lo)
  have C2 := Lib.hid (place_b hi)
  rcases lo with ⟨a, b⟩
  rcases hi with ⟨c, d⟩
  simp only at *
  generalize decide (Plc (a, b)) = r1 at *
  generalize decide (Plc (c, d)) = r2 at *
  obtain ⟨r3, h3⟩ : ∃ r3, decide (a ≤ c) = r3 := ⟨_, rfl⟩
  obtain ⟨r4, h4⟩ : ∃ r4, decide (b ≤ d) = r4 := ⟨_, rfl⟩
  rw [h3, h4]
  have H3 := Lib.hid h3
  have H4 := Lib.hid h4
  clear h3 h4
  go_enter Tryz.func17, Tryz.ntmps17
  go_wp2_with fail
  refine (C1.out _).mono ?_
  rintro e w1 ⟨rfl, g1⟩
  obtain ⟨c1, f1, z1⟩ := laid g1
  try simp at z1
  have G1 : Grew w w1 := Grew.trans (by (repeat' (first | (with_reducible exact Grew.refl _) | (with_reducible assumption) | (with_reducible refine Grew.alloc ?_ _ _) | (with_reducible refine Grew.drew ?_) | (with_reducible refine Grew.drewN ?_ _) | (with_reducible refine Grew.setCell ?_ ?_ _) | go_size))) g1
  clear g1
  have z1_0 : w.heap.size < w1.heap.size := by omega
  have z1_1 : w.heap.size + 1 < w1.heap.size := by omega
  go_wp2_with fail
  refine (C2.out _).mono ?_
  rintro e w2 ⟨rfl, g2⟩
  obtain ⟨c2, f2, z2⟩ := laid g2
  try simp at z2
  have G2 : Grew w w2 := Grew.trans (by (repeat' (first | (with_reducible exact Grew.refl _) | (with_reducible assumption) | (with_reducible refine Grew.alloc ?_ _ _) | (with_reducible refine Grew.drew ?_) | (with_reducible refine Grew.drewN ?_ _) | (with_reducible refine Grew.setCell ?_ ?_ _) | go_size))) g2
  clear g2
  have z2_0 : w.heap.size < w2.heap.size := by omega
  have z2_1 : w.heap.size + 1 < w2.heap.size := by omega
  cases r1
  · cases r2
    · go_wp2_with fail
      go_ret
      exact ⟨by first | rfl | (simp; done) | (simp; omega), (by (repeat' (first | (with_reducible exact Grew.refl _) | (with_reducible assumption) | (with_reducible refine Grew.alloc ?_ _ _) | (with_reducible refine Grew.drew ?_) | (with_reducible refine Grew.drewN ?_ _) | (with_reducible refine Grew.setCell ?_ ?_ _) | go_size)))⟩
    · go_wp2_with fail
      go_ret
      exact ⟨by first | rfl | (simp; done) | (simp; omega), (by (repeat' (first | (with_reducible exact Grew.refl _) | (with_reducible assumption) | (with_reducible refine Grew.alloc ?_ _ _) | (with_reducible refine Grew.drew ?_) | (with_reducible refine Grew.drewN ?_ _) | (with_reducible refine Grew.setCell ?_ ?_ _) | go_size)))⟩
  · cases r2
    · go_wp2_with fail
      go_ret
      exact ⟨by first | rfl | (simp; done) | (simp; omega), (by (repeat' (first | (with_reducible exact Grew.refl _) | (with_reducible assumption) | (with_reducible refine Grew.alloc ?_ _ _) | (with_reducible refine Grew.drew ?_) | (with_reducible refine Grew.drewN ?_ _) | (with_reducible refine Grew.setCell ?_ ?_ _) | go_size)))⟩
    · by_cases e3 : a ≤ c
      · obtain rfl : r3 = true := by rw [← H3.out]; exact decide_eq_true e3
        by_cases e4 : b ≤ d
        · obtain rfl : r4 = true := by rw [← H4.out]; exact decide_eq_true e4
          go_wp2_with fail
          go_ret
          exact ⟨by first | rfl | (simp; done) | (simp; omega), (by (repeat' (first | (with_reducible exact Grew.refl _) | (with_reducible assumption) | (with_reducible refine Grew.alloc ?_ _ _) | (with_reducible refine Grew.drew ?_) | (with_reducible refine Grew.drewN ?_ _) | (with_reducible refine Grew.setCell ?_ ?_ _) | go_size)))⟩
        · obtain rfl : r4 = false := by rw [← H4.out]; exact decide_eq_false e4
          go_wp2_with fail
          go_ret
          exact ⟨by first | rfl | (simp; done) | (simp; omega), (by (repeat' (first | (with_reducible exact Grew.refl _) | (with_reducible assumption) | (with_reducible refine Grew.alloc ?_ _ _) | (with_reducible refine Grew.drew ?_) | (with_reducible refine Grew.drewN ?_ _) | (with_reducible refine Grew.setCell ?_ ?_ _) | go_size)))⟩
      · obtain rfl : r3 = false := by rw [← H3.out]; exact decide_eq_false e3
        go_wp2_with fail
        go_ret
        exact ⟨by first | rfl | (simp; done) | (simp; omega), (by (repeat' (first | (with_reducible exact Grew.refl _) | (with_reducible assumption) | (with_reducible refine Grew.alloc ?_ _ _) | (with_reducible refine Grew.drew ?_) | (with_reducible refine Grew.drewN ?_ _) | (with_reducible refine Grew.setCell ?_ ?_ _) | go_size)))⟩
set_option maxHeartbeats 4000000 in
theorem spotAt_c (t : Ed) (u : Value) (x : Pt) (c : Int) (w : World) (hz : 0 ≤ t.z ∧ t.z ≤ 1000000000) (hc : 0 ≤ c ∧ c ≤ 1000000000) (hx : Plc x) : Calls Tryz.prog 31 #[tv t u, .agg #[.int .i64 x.1, .int .i64 x.2], .int .i64 c] w fun e w' => e = .returned (.agg #[.int .i64 (sl t.z c), .int .i64 (bk x.2), .int .i64 (bk x.1)]) ∧ Grew w w' := by
  unfold tv
  obtain ⟨⟨x0, x1⟩, ⟨x2, x3⟩⟩ := hx
  obtain ⟨z0, z1'⟩ := hz
  obtain ⟨t0, t1⟩ := hc
  have C1 := floor_g (c - t.z) 3600
  have C2 := floor_g x.2 10000
  have C3 := floor_g x.1 10000
  rw [sl_fl] at C1
  rw [bk_fl] at C2 C3
  rcases t with ⟨v, z, n, ⟨rx, ry, rs, ⟨ra, rb, rc, rd, rp, rq⟩⟩, l⟩
  rcases x with ⟨px, py⟩
  simp only at *
  have K1 : Hid (∀ W, Calls Tryz.prog 50 #[.int .i64 (c - z), .int .i64 3600] W fun e w' => e = .returned (.tuple #[.int .i64 (sl z c), .int .i64 0]) ∧ Grew W w') := Lib.hid (fun W => C1 W ⟨by omega, by omega, by decide⟩)
  have K2 : Hid (∀ W, Calls Tryz.prog 50 #[.int .i64 py, .int .i64 10000] W fun e w' => e = .returned (.tuple #[.int .i64 (bk py), .int .i64 0]) ∧ Grew W w') := Lib.hid (fun W => C2 W ⟨by omega, by omega, by decide⟩)
  have K3 : Hid (∀ W, Calls Tryz.prog 50 #[.int .i64 px, .int .i64 10000] W fun e w' => e = .returned (.tuple #[.int .i64 (bk px), .int .i64 0]) ∧ Grew W w') := Lib.hid (fun W => C3 W ⟨by omega, by omega, by decide⟩)
  generalize sl z c = S at *
  generalize bk py = Y at *
  generalize bk px = X at *
  clear C1 C2 C3
  go_enter Tryz.func31, Tryz.ntmps31
  go_wp2_with fail
  refine (K1.out _).mono ?_
  rintro e w1 ⟨rfl, g1⟩
  obtain ⟨c1, f1, z1⟩ := laid g1
  try simp at z1
  have G1 : Grew w w1 := Grew.trans (by (repeat' (first | (with_reducible exact Grew.refl _) | (with_reducible assumption) | (with_reducible refine Grew.alloc ?_ _ _) | (with_reducible refine Grew.drew ?_) | (with_reducible refine Grew.drewN ?_ _) | (with_reducible refine Grew.setCell ?_ ?_ _) | go_size))) g1
  clear g1
  have z1_0 : w.heap.size < w1.heap.size := by omega
  have z1_1 : w.heap.size + 1 < w1.heap.size := by omega
  have z1_2 : w.heap.size + 1 + 1 < w1.heap.size := by omega
  go_wp2_with fail
  refine (K2.out _).mono ?_
  rintro e w2 ⟨rfl, g2⟩
  obtain ⟨c2, f2, z2⟩ := laid g2
  try simp at z2
  have G2 : Grew w w2 := Grew.trans (by (repeat' (first | (with_reducible exact Grew.refl _) | (with_reducible assumption) | (with_reducible refine Grew.alloc ?_ _ _) | (with_reducible refine Grew.drew ?_) | (with_reducible refine Grew.drewN ?_ _) | (with_reducible refine Grew.setCell ?_ ?_ _) | go_size))) g2
  clear g2
  have z2_0 : w.heap.size < w2.heap.size := by omega
  have z2_1 : w.heap.size + 1 < w2.heap.size := by omega
  have z2_2 : w.heap.size + 1 + 1 < w2.heap.size := by omega
  go_wp2_with fail
  refine (K3.out _).mono ?_
  rintro e w3 ⟨rfl, g3⟩
  obtain ⟨c3, f3, z3⟩ := laid g3
  try simp at z3
  have G3 : Grew w w3 := Grew.trans (by (repeat' (first | (with_reducible exact Grew.refl _) | (with_reducible assumption) | (with_reducible refine Grew.alloc ?_ _ _) | (with_reducible refine Grew.drew ?_) | (with_reducible refine Grew.drewN ?_ _) | (with_reducible refine Grew.setCell ?_ ?_ _) | go_size))) g3
  clear g3
  have z3_0 : w.heap.size < w3.heap.size := by omega
  have z3_1 : w.heap.size + 1 < w3.heap.size := by omega
  have z3_2 : w.heap.size + 1 + 1 < w3.heap.size := by omega
  go_wp2_with fail
  refine bodyPost_ret (v := .agg #[.int .i64 S, .int .i64 Y, .int .i64 X]) (by simp [results, Tryz.results31, go_sem, *]) rfl ⟨rfl, (by (repeat' (first | (with_reducible exact Grew.refl _) | (with_reducible assumption) | (with_reducible refine Grew.alloc ?_ _ _) | (with_reducible refine Grew.drew ?_) | (with_reducible refine Grew.drewN ?_ _) | (with_reducible refine Grew.setCell ?_ ?_ _) | go_size)))⟩
theorem mul_in {a n : Int} (h : -5000 ≤ a ∧ a ≤ 5000) (hn : 0 ≤ n ∧ n ≤ 100000) : -500000000 ≤ a * n ∧ a * n ≤ 500000000 := by
  have h1 : a * n ≤ 5000 * n := Int.mul_le_mul_of_nonneg_right h.2 hn.1
  have h2 : -5000 * n ≤ a * n := Int.mul_le_mul_of_nonneg_right h.1 hn.1
  omega
def Ca (lo hi n : Int) : Int × Int := (Ex.fl (lo * n) 100, Ex.ce (hi * n) 100)
set_option maxHeartbeats 4000000 in
theorem carried_c (lo hi n : Int) (w : World) (h1 : -5000 ≤ lo ∧ lo ≤ 5000) (h2 : -5000 ≤ hi ∧ hi ≤ 5000) (hn : 0 ≤ n ∧ n ≤ 100000) : Calls Tryz.prog 37 #[.agg #[.int .i64 lo, .int .i64 hi], .int .i64 n] w fun e w' => e = .returned (.agg #[.int .i64 (Ca lo hi n).1, .int .i64 (Ca lo hi n).2]) ∧ Grew w w' := by
  have m1 := mul_in h1 hn
  have m2 := mul_in h2 hn
  unfold Ca
  have K1 : Hid (∀ W, Calls Tryz.prog 50 #[.int .i64 (lo * n), .int .i64 100] W fun e w' => e = .returned (.tuple #[.int .i64 (Ex.fl (lo * n) 100), .int .i64 0]) ∧ Grew W w') := Lib.hid (fun W => floor_g _ _ W ⟨by omega, by omega, by decide⟩)
  have K2 : Hid (∀ W, Calls Tryz.prog 54 #[.int .i64 (hi * n), .int .i64 100] W fun e w' => e = .returned (.tuple #[.int .i64 (Ex.ce (hi * n) 100), .int .i64 0]) ∧ Grew W w') := Lib.hid (fun W => ceil_g _ _ W ⟨by omega, by omega, by decide⟩)
  simp only
  generalize Ex.fl (lo * n) 100 = X at *
  generalize Ex.ce (hi * n) 100 = Y at *
  go_enter Tryz.func37, Tryz.ntmps37
  go_wp2_with fail
  refine (K1.out _).mono ?_
  rintro e w1 ⟨rfl, g1⟩
  obtain ⟨c1, f1, z1⟩ := laid g1
  try simp at z1
  have G1 : Grew w w1 := Grew.trans (by (repeat' (first | (with_reducible exact Grew.refl _) | (with_reducible assumption) | (with_reducible refine Grew.alloc ?_ _ _) | (with_reducible refine Grew.drew ?_) | (with_reducible refine Grew.drewN ?_ _) | (with_reducible refine Grew.setCell ?_ ?_ _) | go_size))) g1
  clear g1
  have z1_0 : w.heap.size < w1.heap.size := by omega
  have z1_1 : w.heap.size + 1 < w1.heap.size := by omega
  go_wp2_with fail
  refine (K2.out _).mono ?_
  rintro e w2 ⟨rfl, g2⟩
  obtain ⟨c2, f2, z2⟩ := laid g2
  try simp at z2
  have G2 : Grew w w2 := Grew.trans (by (repeat' (first | (with_reducible exact Grew.refl _) | (with_reducible assumption) | (with_reducible refine Grew.alloc ?_ _ _) | (with_reducible refine Grew.drew ?_) | (with_reducible refine Grew.drewN ?_ _) | (with_reducible refine Grew.setCell ?_ ?_ _) | go_size))) g2
  clear g2
  have z2_0 : w.heap.size < w2.heap.size := by omega
  have z2_1 : w.heap.size + 1 < w2.heap.size := by omega
  go_wp2_with fail
  refine bodyPost_ret (v := .agg #[.int .i64 X, .int .i64 Y]) (by simp [results, Tryz.results37, go_sem, *]) rfl ⟨rfl, (by (repeat' (first | (with_reducible exact Grew.refl _) | (with_reducible assumption) | (with_reducible refine Grew.alloc ?_ _ _) | (with_reducible refine Grew.drew ?_) | (with_reducible refine Grew.drewN ?_ _) | (with_reducible refine Grew.setCell ?_ ?_ _) | go_size)))⟩
end Td
end Go.Proofs.YtpiajdahmcelnaaGreat
