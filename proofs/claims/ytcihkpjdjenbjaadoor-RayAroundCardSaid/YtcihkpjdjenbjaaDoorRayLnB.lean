/-
  The landed package ray: the sides of a vector, Between, Of.
-/
import Derived.Test.YtcihkpjdjenbjaaDoorRayLnA
namespace Go.Proofs.YtcihkpjdjenbjaaDoor
open Go.RowKit Hl
namespace Ry
set_option maxRecDepth 100000

theorem sides_c (v : Pt) (w : World) : Calls Tryd.prog 29 #[.agg #[.int .i64 v.1, .int .i64 v.2]] w fun e w' => e = .returned (.func (.func 50) #[] #[.pointer (some ⟨w.heap.size, 0, none⟩)]) ∧ w' = w.alloc (.cells #[.int .i64 v.1, .int .i64 v.2] 23) := by
  have hmf : ∀ (fn : Fn) (first cap : Array Value) (w : World), (Instr.makeFunc fn first cap).run Tryd.prog w = .ok (.func fn first cap) w := fun _ _ _ _ => rfl
  go_enter Tryd.func29, Tryd.ntmps29
  go_wp2_with fail
  go_ret
  exact ⟨rfl, rfl⟩
theorem mul_in {p y : Int} (hp : -1000 ≤ p ∧ p ≤ 1000) (hy : -1000000 ≤ y ∧ y ≤ 1000000) : -1000000000 ≤ p * y ∧ p * y ≤ 1000000000 := by
  have a1 := Int.mul_le_mul_of_nonneg_right (show p - 1000 ≤ 0 by omega) (show 0 ≤ y + 1000000 by omega)
  have a2 := Int.mul_nonneg (show 0 ≤ p + 1000 by omega) (show 0 ≤ y + 1000000 by omega)
  have a3 := Int.mul_nonneg (show 0 ≤ 1000 - p by omega) (show 0 ≤ 1000000 - y by omega)
  have a4 := Int.mul_nonneg (show 0 ≤ p + 1000 by omega) (show 0 ≤ 1000000 - y by omega)
  have a5 := Int.mul_nonneg (show 0 ≤ 1000 - p by omega) (show 0 ≤ y + 1000000 by omega)
  have e2 : (p + 1000) * (y + 1000000) = p * y + 1000000 * p + 1000 * y + 1000000000 := by grind
  have e3 : (1000 - p) * (1000000 - y) = 1000000000 - 1000 * y - 1000000 * p + p * y := by grind
  have e4 : (p + 1000) * (1000000 - y) = 1000000 * p + 1000000000 - p * y - 1000 * y := by grind
  have e5 : (1000 - p) * (y + 1000000) = 1000 * y + 1000000000 - p * y - 1000000 * p := by grind
  omega
theorem dir_bd' (k : Nat) : (-1000 ≤ (dir k).1 ∧ (dir k).1 ≤ 1000) ∧ (-1000 ≤ (dir k).2 ∧ (dir k).2 ≤ 1000) := by
  unfold dir
  exact tn_bdQ _ (q0_bdQ (k % 16) (by omega))
/-- A vector's coordinates. -/
def Near (v : Pt) : Prop := (-1000000 ≤ v.1 ∧ v.1 ≤ 1000000) ∧ (-1000000 ≤ v.2 ∧ v.2 ≤ 1000000)
set_option maxHeartbeats 1000000 in
theorem side_c (k : Nat) (v : Pt) (b : Nat) (w : World) (hT : Tq w) (hk : k < 128) (hv : Near v) (hb : Blk w b #[.int .i64 v.1, .int .i64 v.2] 23) : Calls Tryd.prog 50 #[.int .i64 k, .pointer (some ⟨b, 0, none⟩)] w fun e w' => e = .returned (.int .i64 (sd k v)) ∧ Grew w w' := by
  have DC := Lib.hid (direction_c k w hT hk)
  have HB := Lib.hid hb
  have SD : Hid ((dir k).1 * v.2 - (dir k).2 * v.1 = sd k v) := Lib.hid rfl
  have BD := dir_bd' k
  generalize dir k = r at DC SD BD
  obtain ⟨p, q⟩ := r
  obtain ⟨x, y⟩ := v
  simp only at DC SD BD hv HB hb ⊢
  obtain ⟨⟨p0, p1⟩, q0, q1⟩ := BD
  obtain ⟨⟨x0, x1⟩, y0, y1⟩ := hv
  simp only at x0 x1 y0 y1
  obtain ⟨m0, m1⟩ := mul_in ⟨p0, p1⟩ ⟨y0, y1⟩
  obtain ⟨n0, n1⟩ := mul_in ⟨q0, q1⟩ ⟨x0, x1⟩
  have k0 : (0 : Int) ≤ (k : Int) := by omega
  have k1 : (k : Int) < 128 := by omega
  clear hT hb
  go_enter Tryd.func50, Tryd.ntmps50
  go_wp2_with fail
  refine (DC.out).mono ?_
  rintro e w1 ⟨rfl, g⟩
  obtain ⟨⟨b0, b1⟩, _, _⟩ := (HB.out.grown g).two
  have lb := (HB.out.grown g).lt
  have lb1 : b < w1.heap.size + 1 := by omega
  go_wp2_with fail
  go_ret
  exact ⟨by first | (rw [SD.out]; done) | (simp [SD.out]; done), (by (repeat' (first | (with_reducible exact Grew.refl _) | (with_reducible assumption) | (with_reducible refine Grew.alloc ?_ _ _) | (with_reducible refine Grew.drew ?_) | (with_reducible refine Grew.drewN ?_ _) | (with_reducible refine Grew.setCell ?_ ?_ _) | go_size)))⟩

theorem isOn_c (k : Nat) (v : Pt) (b : Nat) (w : World) (hT : Tq w) (hk : k < 112) (hv : Near v) (hb : Blk w b #[.int .i64 v.1, .int .i64 v.2] 23) : Calls Tryd.prog 30 #[.int .i64 k, .func (.func 50) #[] #[.pointer (some ⟨b, 0, none⟩)]] w fun e w' => e = .returned (.bool (decide (On k v))) ∧ Grew w w' := by
  have SC := Lib.hid (fun W (g : Grew w W) => side_c k v b W (hT.grew g) (by omega) hv (hb.grown g))
  have SC' : Hid (∀ W, Grew w W → Calls Tryd.prog 50 #[.int .i64 ((k : Int) + 16), .pointer (some ⟨b, 0, none⟩)] W fun e w' => e = .returned (.int .i64 (sd (k + 16) v)) ∧ Grew W w') := Lib.hid (fun W (g : Grew w W) => side_c (k + 16) v b W (hT.grew g) (by omega) hv (hb.grown g))
  have k0 : (0 : Int) ≤ (k : Int) := by omega
  have k1 : (k : Int) < 112 := by omega
  have ON : Hid (On k v ↔ (sd k v = 0 ∧ sd (k + 16) v < 0)) := Lib.hid Iff.rfl
  generalize sd k v = s at SC ON
  generalize sd (k + 16) v = u at SC' ON
  clear hT hb hv
  by_cases hs : s = 0
  · by_cases hu : u < 0
    · rw [decide_eq_true (ON.out.2 ⟨hs, hu⟩)]
      subst hs
      go_enter Tryd.func30, Tryd.ntmps30
      go_wp2_with fail
      refine (SC.out _ (Grew.refl _)).mono ?_
      rintro e w1 ⟨rfl, g1⟩
      go_wp2_with fail
      refine (SC'.out _ g1).mono ?_
      rintro e w2 ⟨rfl, g2⟩
      have g2 := g1.trans g2
      clear g1
      go_wp2_with fail
      go_ret
      exact ⟨by first | rfl | (simp; omega), (by (repeat' (first | (with_reducible exact Grew.refl _) | (with_reducible assumption) | (with_reducible refine Grew.alloc ?_ _ _) | (with_reducible refine Grew.drew ?_) | (with_reducible refine Grew.drewN ?_ _) | (with_reducible refine Grew.setCell ?_ ?_ _) | go_size)))⟩
    · rw [decide_eq_false (fun h => hu (ON.out.1 h).2)]
      subst hs
      go_enter Tryd.func30, Tryd.ntmps30
      go_wp2_with fail
      refine (SC.out _ (Grew.refl _)).mono ?_
      rintro e w1 ⟨rfl, g1⟩
      go_wp2_with fail
      refine (SC'.out _ g1).mono ?_
      rintro e w2 ⟨rfl, g2⟩
      have g2 := g1.trans g2
      clear g1
      go_wp2_with fail
      go_ret
      exact ⟨by first | rfl | (simp; omega), (by (repeat' (first | (with_reducible exact Grew.refl _) | (with_reducible assumption) | (with_reducible refine Grew.alloc ?_ _ _) | (with_reducible refine Grew.drew ?_) | (with_reducible refine Grew.drewN ?_ _) | (with_reducible refine Grew.setCell ?_ ?_ _) | go_size)))⟩
  · rw [decide_eq_false (fun h => hs (ON.out.1 h).1)]
    have hs2 : (s == 0) = false := by rw [beq_eq_false_iff_ne]; exact hs
    go_enter Tryd.func30, Tryd.ntmps30
    go_wp2_with fail
    refine (SC.out _ (Grew.refl _)).mono ?_
    rintro e w1 ⟨rfl, g1⟩
    go_wp2_with fail
    go_ret
    exact ⟨by first | rfl | (simp; omega), (by (repeat' (first | (with_reducible exact Grew.refl _) | (with_reducible assumption) | (with_reducible refine Grew.alloc ?_ _ _) | (with_reducible refine Grew.drew ?_) | (with_reducible refine Grew.drewN ?_ _) | (with_reducible refine Grew.setCell ?_ ?_ _) | go_size)))⟩
theorem Vec.near {v : Pt} (h : Vec v) : Near v := h.1
set_option maxHeartbeats 2000000 in
theorem between_ok (a n : Nat) (v : Pt) (w : World) (hT : Tq w) (ha : a < 64) (hn : n ≤ 31) (hv : Vec v) : Calls Tryd.prog 12 #[.int .i64 a, .int .i64 n, .agg #[.int .i64 v.1, .int .i64 v.2]] w fun e w' => e = .returned (.tuple #[.bool (decide (Lies a n v)), .int .i64 0]) ∧ Grew w w' := by
  have A0 : Hid ((0 : Int) ≤ (a : Int) ∧ (a : Int) < 64) := Lib.hid (by omega)
  have N0 : Hid ((0 : Int) ≤ (n : Int) ∧ (n : Int) ≤ 31) := Lib.hid (by omega)
  have a0 : (0 : Int) ≤ (a : Int) := by omega
  have a1 : (a : Int) < 64 := by omega
  have n0 : (0 : Int) ≤ (n : Int) := by omega
  have n1 : (n : Int) ≤ 31 := by omega
  have VC : Hid (∀ W, Calls Tryd.prog 28 #[.agg #[.int .i64 v.1, .int .i64 v.2]] W fun e w' => e = .returned (.bool true) ∧ Grew W w') := Lib.hid (fun W => isVector_yes v W hv)
  have GA : Hid (Grew w (w.alloc (.cells #[.int .i64 v.1, .int .i64 v.2] 23))) := Lib.hid ((Grew.refl w).alloc _ _)
  have BA : Hid (Blk (w.alloc (.cells #[.int .i64 v.1, .int .i64 v.2] 23)) w.heap.size #[.int .i64 v.1, .int .i64 v.2] 23) := Lib.hid (Blk.new _ _ _)
  have OC : Hid (∀ b W, Grew w W → Blk W b #[.int .i64 v.1, .int .i64 v.2] 23 → Calls Tryd.prog 30 #[.int .i64 a, .func (.func 50) #[] #[.pointer (some ⟨b, 0, none⟩)]] W fun e w' => e = .returned (.bool (decide (On a v))) ∧ Grew W w') := Lib.hid (fun b W g hb => isOn_c a v b W (hT.grew g) (by omega) hv.near hb)
  have S1 : Hid (∀ b W, Grew w W → Blk W b #[.int .i64 v.1, .int .i64 v.2] 23 → Calls Tryd.prog 50 #[.int .i64 a, .pointer (some ⟨b, 0, none⟩)] W fun e w' => e = .returned (.int .i64 (sd a v)) ∧ Grew W w') := Lib.hid (fun b W g hb => side_c a v b W (hT.grew g) (by omega) hv.near hb)
  have S2 : Hid (∀ b W, Grew w W → Blk W b #[.int .i64 v.1, .int .i64 v.2] 23 → Calls Tryd.prog 50 #[.int .i64 ((a : Int) + (n : Int)), .pointer (some ⟨b, 0, none⟩)] W fun e w' => e = .returned (.int .i64 (sd (a + n) v)) ∧ Grew W w') := Lib.hid (fun b W g hb => by
    have h := side_c (a + n) v b W (hT.grew g) (by omega) hv.near hb
    rwa [Int.natCast_add] at h)
  have LI : Hid (Lies a n v ↔ (On a v ∨ (0 < n ∧ 0 ≤ sd a v ∧ sd (a + n) v ≤ 0))) := Lib.hid Iff.rfl
  generalize sd a v = s at S1 LI
  generalize sd (a + n) v = u at S2 LI
  clear hT hv
  by_cases ho : On a v
  · rw [decide_eq_true (LI.out.2 (Or.inl ho))]
    rw [decide_eq_true ho] at OC
    clear ho
    go_enter Tryd.func12, Tryd.ntmps12
    go_wp2_with fail
    refine (isRay_yes _ A0.out.1 A0.out.2 _).mono ?_
    rintro e w' ⟨rfl, rfl⟩
    go_wp2_with fail
    refine (isWidth_yes _ N0.out.1 N0.out.2 _).mono ?_
    rintro e w' ⟨rfl, rfl⟩
    go_wp2_with fail
    refine (VC.out _).mono ?_
    rintro e w1 ⟨rfl, g1⟩
    have G1 := (GA.out).trans g1
    obtain ⟨⟨b0, b1⟩, _, _⟩ := (BA.out.grown g1).two
    have lb := (BA.out.grown g1).lt
    clear g1
    go_wp2_with fail
    refine (sides_c v _).mono ?_
    rintro e w2 ⟨rfl, rfl⟩
    have kB := Lib.hid (Blk.new w1 #[.int .i64 v.1, .int .i64 v.2] 23)
    have G2 := Lib.hid (G1.alloc #[.int .i64 v.1, .int .i64 v.2] 23)
    clear b0 b1 lb
    go_wp2_with fail
    refine (OC.out _ _ G2.out kB.out).mono ?_
    rintro e w3 ⟨rfl, g3⟩
    have G3 := G2.out.trans g3
    have kB3 := Lib.hid (kB.out.grown g3)
    clear g3
    go_wp2_with fail
    go_ret2
    exact ⟨by first | rfl | (simp; omega), (by (repeat' (first | (with_reducible exact Grew.refl _) | (with_reducible assumption) | (with_reducible refine Grew.alloc ?_ _ _) | (with_reducible refine Grew.drew ?_) | (with_reducible refine Grew.drewN ?_ _) | (with_reducible refine Grew.setCell ?_ ?_ _) | go_size)))⟩
  rw [decide_eq_false ho] at OC
  by_cases hz : n = 0
  · rw [decide_eq_false (fun h => by rcases LI.out.1 h with h | h; exact ho h; omega)]
    subst hz
    clear ho
    go_enter Tryd.func12, Tryd.ntmps12
    go_wp2_with fail
    refine (isRay_yes _ A0.out.1 A0.out.2 _).mono ?_
    rintro e w' ⟨rfl, rfl⟩
    go_wp2_with fail
    refine (isWidth_yes _ N0.out.1 N0.out.2 _).mono ?_
    rintro e w' ⟨rfl, rfl⟩
    go_wp2_with fail
    refine (VC.out _).mono ?_
    rintro e w1 ⟨rfl, g1⟩
    have G1 := (GA.out).trans g1
    obtain ⟨⟨b0, b1⟩, _, _⟩ := (BA.out.grown g1).two
    have lb := (BA.out.grown g1).lt
    clear g1
    go_wp2_with fail
    refine (sides_c v _).mono ?_
    rintro e w2 ⟨rfl, rfl⟩
    have kB := Lib.hid (Blk.new w1 #[.int .i64 v.1, .int .i64 v.2] 23)
    have G2 := Lib.hid (G1.alloc #[.int .i64 v.1, .int .i64 v.2] 23)
    clear b0 b1 lb
    go_wp2_with fail
    refine (OC.out _ _ G2.out kB.out).mono ?_
    rintro e w3 ⟨rfl, g3⟩
    have G3 := G2.out.trans g3
    have kB3 := Lib.hid (kB.out.grown g3)
    clear g3
    go_wp2_with fail
    go_ret2
    exact ⟨by first | rfl | (simp; omega), (by (repeat' (first | (with_reducible exact Grew.refl _) | (with_reducible assumption) | (with_reducible refine Grew.alloc ?_ _ _) | (with_reducible refine Grew.drew ?_) | (with_reducible refine Grew.drewN ?_ _) | (with_reducible refine Grew.setCell ?_ ?_ _) | go_size)))⟩
  have hz1 : (0 : Int) < (n : Int) := by omega
  by_cases hs : 0 ≤ s
  · by_cases hu : u ≤ 0
    · rw [decide_eq_true (LI.out.2 (Or.inr ⟨by omega, hs, hu⟩))]
      clear ho
      go_enter Tryd.func12, Tryd.ntmps12
      go_wp2_with fail
      refine (isRay_yes _ A0.out.1 A0.out.2 _).mono ?_
      rintro e w' ⟨rfl, rfl⟩
      go_wp2_with fail
      refine (isWidth_yes _ N0.out.1 N0.out.2 _).mono ?_
      rintro e w' ⟨rfl, rfl⟩
      go_wp2_with fail
      refine (VC.out _).mono ?_
      rintro e w1 ⟨rfl, g1⟩
      have G1 := (GA.out).trans g1
      obtain ⟨⟨b0, b1⟩, _, _⟩ := (BA.out.grown g1).two
      have lb := (BA.out.grown g1).lt
      clear g1
      go_wp2_with fail
      refine (sides_c v _).mono ?_
      rintro e w2 ⟨rfl, rfl⟩
      have kB := Lib.hid (Blk.new w1 #[.int .i64 v.1, .int .i64 v.2] 23)
      have G2 := Lib.hid (G1.alloc #[.int .i64 v.1, .int .i64 v.2] 23)
      clear b0 b1 lb
      go_wp2_with fail
      refine (OC.out _ _ G2.out kB.out).mono ?_
      rintro e w3 ⟨rfl, g3⟩
      have G3 := G2.out.trans g3
      have kB3 := Lib.hid (kB.out.grown g3)
      clear g3
      go_wp2_with fail
      refine (S1.out _ _ G3 kB3.out).mono ?_
      rintro e w4 ⟨rfl, g4⟩
      have G4 := G3.trans g4
      have kB4 := Lib.hid (kB3.out.grown g4)
      clear g4 G3
      go_wp2_with fail
      refine (S2.out _ _ G4 kB4.out).mono ?_
      rintro e w5 ⟨rfl, g5⟩
      have G5 := G4.trans g5
      clear g5 G4
      go_wp2_with fail
      go_ret2
      exact ⟨by first | rfl | (simp; omega), (by (repeat' (first | (with_reducible exact Grew.refl _) | (with_reducible assumption) | (with_reducible refine Grew.alloc ?_ _ _) | (with_reducible refine Grew.drew ?_) | (with_reducible refine Grew.drewN ?_ _) | (with_reducible refine Grew.setCell ?_ ?_ _) | go_size)))⟩
    · rw [decide_eq_false (fun h => by rcases LI.out.1 h with h | h; exact ho h; omega)]
      clear ho
      go_enter Tryd.func12, Tryd.ntmps12
      go_wp2_with fail
      refine (isRay_yes _ A0.out.1 A0.out.2 _).mono ?_
      rintro e w' ⟨rfl, rfl⟩
      go_wp2_with fail
      refine (isWidth_yes _ N0.out.1 N0.out.2 _).mono ?_
      rintro e w' ⟨rfl, rfl⟩
      go_wp2_with fail
      refine (VC.out _).mono ?_
      rintro e w1 ⟨rfl, g1⟩
      have G1 := (GA.out).trans g1
      obtain ⟨⟨b0, b1⟩, _, _⟩ := (BA.out.grown g1).two
      have lb := (BA.out.grown g1).lt
      clear g1
      go_wp2_with fail
      refine (sides_c v _).mono ?_
      rintro e w2 ⟨rfl, rfl⟩
      have kB := Lib.hid (Blk.new w1 #[.int .i64 v.1, .int .i64 v.2] 23)
      have G2 := Lib.hid (G1.alloc #[.int .i64 v.1, .int .i64 v.2] 23)
      clear b0 b1 lb
      go_wp2_with fail
      refine (OC.out _ _ G2.out kB.out).mono ?_
      rintro e w3 ⟨rfl, g3⟩
      have G3 := G2.out.trans g3
      have kB3 := Lib.hid (kB.out.grown g3)
      clear g3
      go_wp2_with fail
      refine (S1.out _ _ G3 kB3.out).mono ?_
      rintro e w4 ⟨rfl, g4⟩
      have G4 := G3.trans g4
      have kB4 := Lib.hid (kB3.out.grown g4)
      clear g4 G3
      go_wp2_with fail
      refine (S2.out _ _ G4 kB4.out).mono ?_
      rintro e w5 ⟨rfl, g5⟩
      have G5 := G4.trans g5
      clear g5 G4
      go_wp2_with fail
      go_ret2
      exact ⟨by first | rfl | (simp; omega), (by (repeat' (first | (with_reducible exact Grew.refl _) | (with_reducible assumption) | (with_reducible refine Grew.alloc ?_ _ _) | (with_reducible refine Grew.drew ?_) | (with_reducible refine Grew.drewN ?_ _) | (with_reducible refine Grew.setCell ?_ ?_ _) | go_size)))⟩
  · rw [decide_eq_false (fun h => by rcases LI.out.1 h with h | h; exact ho h; omega)]
    clear ho
    go_enter Tryd.func12, Tryd.ntmps12
    go_wp2_with fail
    refine (isRay_yes _ A0.out.1 A0.out.2 _).mono ?_
    rintro e w' ⟨rfl, rfl⟩
    go_wp2_with fail
    refine (isWidth_yes _ N0.out.1 N0.out.2 _).mono ?_
    rintro e w' ⟨rfl, rfl⟩
    go_wp2_with fail
    refine (VC.out _).mono ?_
    rintro e w1 ⟨rfl, g1⟩
    have G1 := (GA.out).trans g1
    obtain ⟨⟨b0, b1⟩, _, _⟩ := (BA.out.grown g1).two
    have lb := (BA.out.grown g1).lt
    clear g1
    go_wp2_with fail
    refine (sides_c v _).mono ?_
    rintro e w2 ⟨rfl, rfl⟩
    have kB := Lib.hid (Blk.new w1 #[.int .i64 v.1, .int .i64 v.2] 23)
    have G2 := Lib.hid (G1.alloc #[.int .i64 v.1, .int .i64 v.2] 23)
    clear b0 b1 lb
    go_wp2_with fail
    refine (OC.out _ _ G2.out kB.out).mono ?_
    rintro e w3 ⟨rfl, g3⟩
    have G3 := G2.out.trans g3
    have kB3 := Lib.hid (kB.out.grown g3)
    clear g3
    go_wp2_with fail
    refine (S1.out _ _ G3 kB3.out).mono ?_
    rintro e w4 ⟨rfl, g4⟩
    have G4 := G3.trans g4
    have kB4 := Lib.hid (kB3.out.grown g4)
    clear g4 G3
    go_wp2_with fail
    go_ret2
    exact ⟨by first | rfl | (simp; omega), (by (repeat' (first | (with_reducible exact Grew.refl _) | (with_reducible assumption) | (with_reducible refine Grew.alloc ?_ _ _) | (with_reducible refine Grew.drew ?_) | (with_reducible refine Grew.drewN ?_ _) | (with_reducible refine Grew.setCell ?_ ?_ _) | go_size)))⟩
theorem between_bad (a n : Int) (v : Pt) (w : World) (h : ¬ ((0 ≤ a ∧ a < 64) ∧ (0 ≤ n ∧ n ≤ 31) ∧ Vec v)) : Calls Tryd.prog 12 #[.int .i64 a, .int .i64 n, .agg #[.int .i64 v.1, .int .i64 v.2]] w fun e w' => e = .returned (.tuple #[.bool false, .int .i64 1]) ∧ Grew w w' := by
  have GA : Hid (Grew w (w.alloc (.cells #[.int .i64 v.1, .int .i64 v.2] 23))) := Lib.hid ((Grew.refl w).alloc _ _)
  by_cases ha : 0 ≤ a ∧ a < 64
  · have A0 := Lib.hid ha
    by_cases hn : 0 ≤ n ∧ n ≤ 31
    · have N0 := Lib.hid hn
      have VC : Hid (∀ W, Calls Tryd.prog 28 #[.agg #[.int .i64 v.1, .int .i64 v.2]] W fun e w' => e = .returned (.bool false) ∧ Grew W w') := Lib.hid (fun W => isVector_no v W (fun hv => h ⟨ha, hn, hv⟩))
      clear h ha hn
      go_enter Tryd.func12, Tryd.ntmps12
      go_wp2_with fail
      refine (isRay_yes _ A0.out.1 A0.out.2 _).mono ?_
      rintro e w' ⟨rfl, rfl⟩
      go_wp2_with fail
      refine (isWidth_yes _ N0.out.1 N0.out.2 _).mono ?_
      rintro e w' ⟨rfl, rfl⟩
      go_wp2_with fail
      refine (VC.out _).mono ?_
      rintro e w1 ⟨rfl, g1⟩
      have G1 := (GA.out).trans g1
      clear g1
      go_wp2_with fail
      go_ret2
      exact ⟨rfl, (by (repeat' (first | (with_reducible exact Grew.refl _) | (with_reducible assumption) | (with_reducible refine Grew.alloc ?_ _ _) | (with_reducible refine Grew.drew ?_) | (with_reducible refine Grew.drewN ?_ _) | (with_reducible refine Grew.setCell ?_ ?_ _) | go_size)))⟩
    · have N0 : Hid (n < 0 ∨ 31 < n) := Lib.hid (by omega)
      clear h ha hn
      go_enter Tryd.func12, Tryd.ntmps12
      go_wp2_with fail
      refine (isRay_yes _ A0.out.1 A0.out.2 _).mono ?_
      rintro e w' ⟨rfl, rfl⟩
      go_wp2_with fail
      refine (isWidth_no _ N0.out _).mono ?_
      rintro e w' ⟨rfl, rfl⟩
      go_wp2_with fail
      go_ret2
      exact ⟨rfl, (by (repeat' (first | (with_reducible exact Grew.refl _) | (with_reducible assumption) | (with_reducible refine Grew.alloc ?_ _ _) | (with_reducible refine Grew.drew ?_) | (with_reducible refine Grew.drewN ?_ _) | (with_reducible refine Grew.setCell ?_ ?_ _) | go_size)))⟩
  · have A0 : Hid (a < 0 ∨ 64 ≤ a) := Lib.hid (by omega)
    clear h ha
    go_enter Tryd.func12, Tryd.ntmps12
    go_wp2_with fail
    refine (isRay_no _ A0.out _).mono ?_
    rintro e w' ⟨rfl, rfl⟩
    go_wp2_with fail
    go_ret2
    exact ⟨rfl, (by (repeat' (first | (with_reducible exact Grew.refl _) | (with_reducible assumption) | (with_reducible refine Grew.alloc ?_ _ _) | (with_reducible refine Grew.drew ?_) | (with_reducible refine Grew.drewN ?_ _) | (with_reducible refine Grew.setCell ?_ ?_ _) | go_size)))⟩
/-- The ray that is found. -/
noncomputable def kf (v : Pt) : Nat := open Classical in if h : ∃ k, Fd v k then Classical.choose h else 0
theorem kf_fd {v : Pt} (h : v ≠ (0, 0)) : Fd v (kf v) := by
  unfold kf
  rw [dif_pos (found h)]
  exact Classical.choose_spec (found h)
set_option maxHeartbeats 2000000 in
theorem of_ok (v : Pt) (w : World) (hT : Tq w) (hv : Vec v) : Calls Tryd.prog 14 #[.agg #[.int .i64 v.1, .int .i64 v.2]] w fun e w' => e = .returned (.tuple #[.int .i64 (kf v), .bool (decide (On (kf v) v)), .int .i64 0]) ∧ Grew w w' := by
  have F := kf_fd hv.2
  obtain ⟨K, hK⟩ : ∃ K, kf v = K := ⟨_, rfl⟩
  rw [hK] at F ⊢
  have VC : Hid (∀ W, Calls Tryd.prog 28 #[.agg #[.int .i64 v.1, .int .i64 v.2]] W fun e w' => e = .returned (.bool true) ∧ Grew W w') := Lib.hid (fun W => isVector_yes v W hv)
  have GA : Hid (Grew w (w.alloc (.cells #[.int .i64 v.1, .int .i64 v.2] 23))) := Lib.hid ((Grew.refl w).alloc _ _)
  have BA : Hid (Blk (w.alloc (.cells #[.int .i64 v.1, .int .i64 v.2] 23)) w.heap.size #[.int .i64 v.1, .int .i64 v.2] 23) := Lib.hid (Blk.new _ _ _)
  have OC : Hid (∀ b W, Grew w W → Blk W b #[.int .i64 v.1, .int .i64 v.2] 23 → Calls Tryd.prog 30 #[.int .i64 K, .func (.func 50) #[] #[.pointer (some ⟨b, 0, none⟩)]] W fun e w' => e = .returned (.bool (decide (On K v))) ∧ Grew W w') := Lib.hid (fun b W g hb => isOn_c K v b W (hT.grew g) (by have := F.lt; omega) hv.near hb)
  have S1 : Hid (∀ b (t : Nat) W, Grew w W → t < 128 → Blk W b #[.int .i64 v.1, .int .i64 v.2] 23 → Calls Tryd.prog 50 #[.int .i64 t, .pointer (some ⟨b, 0, none⟩)] W fun e w' => e = .returned (.int .i64 (sd t v)) ∧ Grew W w') := Lib.hid (fun b t W g ht hb => side_c t v b W (hT.grew g) ht hv.near hb)
  have S2 : Hid (∀ b (t : Nat) W, Grew w W → t < 127 → Blk W b #[.int .i64 v.1, .int .i64 v.2] 23 → Calls Tryd.prog 50 #[.int .i64 ((t : Int) + 1), .pointer (some ⟨b, 0, none⟩)] W fun e w' => e = .returned (.int .i64 (sd (t + 1) v)) ∧ Grew W w') := Lib.hid (fun b t W g ht hb => side_c (t + 1) v b W (hT.grew g) (by omega) hv.near hb)
  have NO : Hid (∀ t, t < K → sd t v < 0 ∨ 0 ≤ sd (t + 1) v) := Lib.hid (fun t ht => by
    by_cases h1 : sd t v < 0
    · exact Or.inl h1
    · by_cases h2 : 0 ≤ sd (t + 1) v
      · exact Or.inr h2
      · exfalso
        have hl := F.lt
        have := F.one (show Fd v t from ⟨by omega, by omega, by omega⟩)
        omega)
  have k64 := F.lt
  have YES : Hid (0 ≤ sd K v ∧ sd (K + 1) v < 0) := Lib.hid ⟨F.ge, F.le⟩
  obtain ⟨r, hr⟩ : ∃ r, decide (On K v) = r := ⟨_, rfl⟩
  rw [hr] at OC ⊢
  clear hT hv hK F hr
  go_enter Tryd.func14, Tryd.ntmps14
  go_wp2_with fail
  refine (VC.out _).mono ?_
  rintro e w1 ⟨rfl, g1⟩
  have G1 := (GA.out).trans g1
  obtain ⟨⟨b0, b1⟩, _, _⟩ := (BA.out.grown g1).two
  have lb := (BA.out.grown g1).lt
  clear g1
  go_wp2_with fail
  refine (sides_c v _).mono ?_
  rintro e w2 ⟨rfl, rfl⟩
  have kB := Blk.new w1 #[.int .i64 v.1, .int .i64 v.2] 23
  have G2 := G1.alloc #[.int .i64 v.1, .int .i64 v.2] 23
  clear b0 b1 lb G1
  go_wp2_with fail
  go_loopw [6] (fun i wr => ∃ t : Nat, t ≤ K ∧ i = .int .i64 t ∧ Hid (Blk wr w1.heap.size #[.int .i64 v.1, .int .i64 v.2] 23 ∧ Grew w wr)) (fun i _ => K - (intOf i).toNat)
  case atStart => exact ⟨0, Nat.zero_le _, rfl, Lib.hid ⟨kB, G2⟩⟩
  case round =>
    clear kB G2
    obtain ⟨t, ht, rfl, HH⟩ := hrel
    have t0 : (0 : Int) ≤ (t : Int) := by omega
    have t1 : (t : Int) < 64 := by omega
    have T1 : Hid (t < 64) := Lib.hid (by omega)
    by_cases hlt : t < K
    · have NT := Lib.hid (NO.out t hlt)
      obtain ⟨s, hs⟩ : ∃ s, sd t v = s := ⟨_, rfl⟩
      obtain ⟨u, hu⟩ : ∃ u, sd (t + 1) v = u := ⟨_, rfl⟩
      have A1 := Lib.hid (S1.out w1.heap.size t)
      have A2 := Lib.hid (S2.out w1.heap.size t)
      rw [hs] at A1 NT
      rw [hu] at A2 NT
      clear hs hu
      by_cases hs : s < 0
      · go_wp2_with fail
        refine (A1.out _ HH.out.2 (by have := T1.out; omega) HH.out.1).mono ?_
        rintro e w3 ⟨rfl, g3⟩
        have H3 := Lib.hid (And.intro (HH.out.1.grown g3) (HH.out.2.trans g3))
        clear g3
        go_wp2_with fail
        go_roundw
        case rel => exact ⟨t + 1, by omega, by go_num, H3⟩
        case measure => simp [intOf]; omega
      · have hu : 0 ≤ u := by have := NT.out; omega
        go_wp2_with fail
        refine (A1.out _ HH.out.2 (by have := T1.out; omega) HH.out.1).mono ?_
        rintro e w3 ⟨rfl, g3⟩
        have H3 := Lib.hid (And.intro (HH.out.1.grown g3) (HH.out.2.trans g3))
        clear g3
        go_wp2_with fail
        refine (A2.out _ H3.out.2 (by have := T1.out; omega) H3.out.1).mono ?_
        rintro e w4 ⟨rfl, g4⟩
        have H4 := Lib.hid (And.intro (H3.out.1.grown g4) (H3.out.2.trans g4))
        clear g4 H3
        go_wp2_with fail
        go_roundw
        case rel => exact ⟨t + 1, by omega, by go_num, H4⟩
        case measure => simp [intOf]; omega
    · obtain rfl : t = K := by omega
      obtain ⟨s, hs⟩ : ∃ s, sd t v = s := ⟨_, rfl⟩
      obtain ⟨u, hu⟩ : ∃ u, sd (t + 1) v = u := ⟨_, rfl⟩
      have A1 := Lib.hid (S1.out w1.heap.size t)
      have A2 := Lib.hid (S2.out w1.heap.size t)
      rw [hs] at A1 YES
      rw [hu] at A2 YES
      clear hs hu
      have hs : ¬ s < 0 := by have := YES.out; omega
      have hu : ¬ 0 ≤ u := by have := YES.out; omega
      go_wp2_with fail
      refine (A1.out _ HH.out.2 (by have := T1.out; omega) HH.out.1).mono ?_
      rintro e w3 ⟨rfl, g3⟩
      have H3 := Lib.hid (And.intro (HH.out.1.grown g3) (HH.out.2.trans g3))
      clear g3
      go_wp2_with fail
      refine (A2.out _ H3.out.2 (by have := T1.out; omega) H3.out.1).mono ?_
      rintro e w4 ⟨rfl, g4⟩
      have H4 := Lib.hid (And.intro (H3.out.1.grown g4) (H3.out.2.trans g4))
      clear g4 H3
      go_wp2_with fail
      refine (OC.out _ _ H4.out.2 H4.out.1).mono ?_
      rintro e w5 ⟨rfl, g5⟩
      have G5 := H4.out.2.trans g5
      clear g5
      go_wp2_with fail
      go_ret3
      exact ⟨rfl, (by (repeat' (first | (with_reducible exact Grew.refl _) | (with_reducible assumption) | (with_reducible refine Grew.alloc ?_ _ _) | (with_reducible refine Grew.drew ?_) | (with_reducible refine Grew.drewN ?_ _) | (with_reducible refine Grew.setCell ?_ ?_ _) | go_size)))⟩
theorem of_bad (v : Pt) (w : World) (h : ¬ Vec v) : Calls Tryd.prog 14 #[.agg #[.int .i64 v.1, .int .i64 v.2]] w fun e w' => e = .returned (.tuple #[.int .i64 0, .bool false, .int .i64 1]) ∧ Grew w w' := by
  have GA : Hid (Grew w (w.alloc (.cells #[.int .i64 v.1, .int .i64 v.2] 23))) := Lib.hid ((Grew.refl w).alloc _ _)
  have VC : Hid (∀ W, Calls Tryd.prog 28 #[.agg #[.int .i64 v.1, .int .i64 v.2]] W fun e w' => e = .returned (.bool false) ∧ Grew W w') := Lib.hid (fun W => isVector_no v W h)
  clear h
  go_enter Tryd.func14, Tryd.ntmps14
  go_wp2_with fail
  refine (VC.out _).mono ?_
  rintro e w1 ⟨rfl, g1⟩
  have G1 := (GA.out).trans g1
  clear g1
  go_wp2_with fail
  go_ret3
  exact ⟨rfl, (by (repeat' (first | (with_reducible exact Grew.refl _) | (with_reducible assumption) | (with_reducible refine Grew.alloc ?_ _ _) | (with_reducible refine Grew.drew ?_) | (with_reducible refine Grew.drewN ?_ _) | (with_reducible refine Grew.setCell ?_ ?_ _) | go_size)))⟩
end Ry
end Go.Proofs.YtcihkpjdjenbjaaDoor
