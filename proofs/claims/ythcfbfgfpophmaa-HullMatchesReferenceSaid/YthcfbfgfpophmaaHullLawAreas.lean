/-
  The law HullAreas, under what package hull owes.
-/
import Derived.Test.YthcfbfgfpophmaaHullSm
import Derived.IntWalk
namespace Go.Proofs.Ythcfbfgfpophmaa
open Go.RowKit
namespace Hl

/-- Twice the area of the triangle of x with side i. -/
def gA (p : List Pt) (x : Pt) (i : Nat) : Int := ((cr (at' p i) (at' p ((i + 1) % p.length)) x).natAbs : Int)
theorem cr_abs {a b c : Pt} (ha : Plc a) (hb : Plc b) (hc : Plc c) : -2000000000000 ≤ cr a b c ∧ cr a b c ≤ 2000000000000 := by
  obtain ⟨⟨_, _⟩, ⟨_, _⟩⟩ := cr_bd ha hb hc
  unfold cr
  omega
theorem sum_bd {p : List Pt} {x : Pt} (h : Vl p) (hx : Plc x) : ∀ k, k ≤ p.length → 0 ≤ sumN (gA p x) k ∧ sumN (gA p x) k ≤ 128000000000000 := by
  have key : ∀ k, k ≤ p.length → 0 ≤ sumN (gA p x) k ∧ sumN (gA p x) k ≤ 2000000000000 * (k : Int) := by
    intro k
    induction k with
    | zero => intro _; exact ⟨Int.le_refl _, Int.le_refl _⟩
    | succ k ih =>
      intro hk
      obtain ⟨a, b⟩ := ih (by omega)
      have e : sumN (gA p x) (k + 1) = sumN (gA p x) k + gA p x k := rfl
      have := cr_abs (h.2.1 k (by omega)) (h.2.1 ((k + 1) % p.length) (Nat.mod_lt _ (by omega))) hx
      rw [e]
      unfold gA at a b ⊢
      omega
  intro k hk
  obtain ⟨a, b⟩ := key k hk
  have := h.1.2
  omega
theorem abs_any (n : Int) (w : World) (h0 : -2000000000000 ≤ n) (h1 : n ≤ 2000000000000) : Calls Try.prog 28 #[.int .i64 n] w fun e w' => e = .returned (.int .i64 (n.natAbs : Int)) ∧ w = w' := by
  go_enter Try.func28, Try.ntmps28
  go_wp2_with fail
  all_goals
    go_ret
    first
      | exact ⟨congrArg (fun r => Ending.returned (.int .i64 r)) (show -n = (n.natAbs : Int) by omega), rfl⟩
      | exact ⟨congrArg (fun r => Ending.returned (.int .i64 r)) (show n = (n.natAbs : Int) by omega), rfl⟩
set_option maxRecDepth 100000 in
set_option maxHeartbeats 4000000 in
theorem areas_in (K : Code) (p : List Pt) (x : Pt) (b o c : Nat) (w : World) (N : Int) (H3 : (3 : Int) ≤ (p.length : Int)) (H80 : (p.length : Int) ≤ 80) (HR : Hid (Row w b o p)) (H : Hid (p.length ≤ 80)) (V : Hid (Vl p)) (X : Hid (Plc x)) (NP : Hid (0 < N)) (AR : Hid (∀ w, Sl w (.slice (some ⟨b, o, none⟩) p.length c) p → Calls Try.prog 23 #[.slice (some ⟨b, o, none⟩) p.length c] w fun e w' => e = .returned (.tuple #[.int .i64 N, .int .i64 0]) ∧ Grew w w')) (A : Hid (Hs p x)) (AE : Hid (sumN (gA p x) p.length = N)) : Calls Try.prog 8 #[.slice (some ⟨b, o, none⟩) p.length c, .agg #[.int .i64 x.1, .int .i64 x.2]] w fun e w' => e = .returned (.bool true) ∧ Grew w w' := by
  go_enter Try.func8, Try.ntmps8
  go_wp2_with fail
  refine (head_true K _).mono ?_
  rintro e w1 ⟨rfl, g1⟩
  obtain ⟨c1, f1, z1⟩ := laid g1
  try simp at z1
  have G1 : Grew w w1 := Grew.trans (by (repeat' (first | (with_reducible exact Grew.refl _) | (with_reducible assumption) | (with_reducible refine Grew.alloc ?_ _ _) | (with_reducible refine Grew.drew ?_) | (with_reducible refine Grew.drewN ?_ _) | (with_reducible refine Grew.setCell ?_ ?_ _) | go_size))) g1
  clear g1
  have z1_0 : w.heap.size < w1.heap.size := by omega
  go_wp2_with fail
  refine (few_yes p _ _ ((Sl.of (c := c) HR.out).grown (by (repeat' (first | (with_reducible exact Grew.refl _) | (with_reducible assumption) | (with_reducible refine Grew.alloc ?_ _ _) | (with_reducible refine Grew.drew ?_) | (with_reducible refine Grew.drewN ?_ _) | (with_reducible refine Grew.setCell ?_ ?_ _) | go_size)))) H.out).mono ?_
  rintro e w2 ⟨rfl, g2⟩
  obtain ⟨c2, f2, z2⟩ := laid g2
  try simp at z2
  have G2 : Grew w w2 := Grew.trans (by (repeat' (first | (with_reducible exact Grew.refl _) | (with_reducible assumption) | (with_reducible refine Grew.alloc ?_ _ _) | (with_reducible refine Grew.drew ?_) | (with_reducible refine Grew.drewN ?_ _) | (with_reducible refine Grew.setCell ?_ ?_ _) | go_size))) g2
  clear g2
  have z2_0 : w.heap.size < w2.heap.size := by omega
  go_wp2_with fail
  refine (rvalid_yes p _ _ ((Sl.of (c := c) HR.out).grown (by (repeat' (first | (with_reducible exact Grew.refl _) | (with_reducible assumption) | (with_reducible refine Grew.alloc ?_ _ _) | (with_reducible refine Grew.drew ?_) | (with_reducible refine Grew.drewN ?_ _) | (with_reducible refine Grew.setCell ?_ ?_ _) | go_size)))) H.out V.out).mono ?_
  rintro e w3 ⟨rfl, g3⟩
  obtain ⟨c3, f3, z3⟩ := laid g3
  try simp at z3
  have G3 : Grew w w3 := Grew.trans (by (repeat' (first | (with_reducible exact Grew.refl _) | (with_reducible assumption) | (with_reducible refine Grew.alloc ?_ _ _) | (with_reducible refine Grew.drew ?_) | (with_reducible refine Grew.drewN ?_ _) | (with_reducible refine Grew.setCell ?_ ?_ _) | go_size))) g3
  clear g3
  have z3_0 : w.heap.size < w3.heap.size := by omega
  go_wp2_with fail
  refine (rplace_yes x _ X.out).mono ?_
  rintro e w4 ⟨rfl, g4⟩
  obtain ⟨c4, f4, z4⟩ := laid g4
  try simp at z4
  have G4 : Grew w w4 := Grew.trans (by (repeat' (first | (with_reducible exact Grew.refl _) | (with_reducible assumption) | (with_reducible refine Grew.alloc ?_ _ _) | (with_reducible refine Grew.drew ?_) | (with_reducible refine Grew.drewN ?_ _) | (with_reducible refine Grew.setCell ?_ ?_ _) | go_size))) g4
  clear g4
  have z4_0 : w.heap.size < w4.heap.size := by omega
  go_wp2_with fail
  refine (AR.out _ ((Sl.of (c := c) HR.out).grown (by (repeat' (first | (with_reducible exact Grew.refl _) | (with_reducible assumption) | (with_reducible refine Grew.alloc ?_ _ _) | (with_reducible refine Grew.drew ?_) | (with_reducible refine Grew.drewN ?_ _) | (with_reducible refine Grew.setCell ?_ ?_ _) | go_size))))).mono ?_
  rintro e w5 ⟨rfl, g5⟩
  obtain ⟨c5, f5, z5⟩ := laid g5
  try simp at z5
  have G5 : Grew w w5 := Grew.trans (by (repeat' (first | (with_reducible exact Grew.refl _) | (with_reducible assumption) | (with_reducible refine Grew.alloc ?_ _ _) | (with_reducible refine Grew.drew ?_) | (with_reducible refine Grew.drewN ?_ _) | (with_reducible refine Grew.setCell ?_ ?_ _) | go_size))) g5
  clear g5
  have z5_0 : w.heap.size < w5.heap.size := by omega
  go_wp2_with fail
  refine (has_yes K p x _ _ ((Sl.of (c := c) HR.out).grown (by (repeat' (first | (with_reducible exact Grew.refl _) | (with_reducible assumption) | (with_reducible refine Grew.alloc ?_ _ _) | (with_reducible refine Grew.drew ?_) | (with_reducible refine Grew.drewN ?_ _) | (with_reducible refine Grew.setCell ?_ ?_ _) | go_size)))) V.out X.out A.out).mono ?_
  rintro e w6 ⟨rfl, g6⟩
  obtain ⟨c6, f6, z6⟩ := laid g6
  try simp at z6
  have G6 : Grew w w6 := Grew.trans (by (repeat' (first | (with_reducible exact Grew.refl _) | (with_reducible assumption) | (with_reducible refine Grew.alloc ?_ _ _) | (with_reducible refine Grew.drew ?_) | (with_reducible refine Grew.drewN ?_ _) | (with_reducible refine Grew.setCell ?_ ?_ _) | go_size))) g6
  clear g6
  have z6_0 : w.heap.size < w6.heap.size := by omega
  go_wp2_with fail
  have x0 : w6.cell? ⟨w.heap.size, 0, none⟩ = some (.int .i64 x.1) := by simp [go_sem, *]
  have x1 : w6.cell? ⟨w.heap.size, 1, none⟩ = some (.int .i64 x.2) := by simp [go_sem, *]
  clear c1 f1 c2 f2 c3 f3 c4 f4 c5 f5 c6 f6
  clear z1 G1 z1_0 z2 G2 z2_0 z3 G3 z3_0 z4 G4 z4_0 z5 G5 z5_0
  go_loopw [10, 45] (fun s i wr => ∃ k : Nat, k ≤ p.length ∧ i = .int .i64 k ∧ s = .int .i64 (sumN (gA p x) k) ∧ Grew w wr ∧ w.heap.size < wr.heap.size ∧ wr.cell? ⟨w.heap.size, 0, none⟩ = some (.int .i64 x.1) ∧ wr.cell? ⟨w.heap.size, 1, none⟩ = some (.int .i64 x.2)) (fun _ i _ => p.length - (intOf i).toNat)
  case atStart => exact ⟨0, Nat.zero_le _, rfl, rfl, G6, by omega, x0, x1⟩
  case round =>
    clear x0 x1 z6 z6_0 G6
    obtain ⟨k, hk, rfl, rfl, G, y0, x0, x1⟩ := hrel
    by_cases hlt : k < p.length
    · obtain ⟨m, hm⟩ : ∃ m, (k + 1) % p.length = m := ⟨_, rfl⟩
      have hmm : m < p.length := by rw [← hm]; exact Nat.mod_lt _ (by omega)
      have TM' : ((k : Int) + 1).tmod (p.length : Int) = (m : Int) := by
        rw [← hm, Int.natCast_emod, Int.natCast_add]
        exact Int.tmod_eq_emod_of_nonneg (by omega)
      have WK' : IntKind.i64.wrap ((k : Int) + 1) = (k : Int) + 1 := IntWalk.i64_in _ ⟨by omega, by omega⟩
      have TM2 : ((k : Int) + 1) % (p.length : Int) = (m : Int) := by rw [← TM']; exact (Int.tmod_eq_emod_of_nonneg (by omega)).symm
      have nz : (p.length : Int) ≠ 0 := by omega
      have nz2 : ((p.length : Int) == 0) = false := by rw [beq_eq_false_iff_ne]; omega
      have nz3 : ¬ p.length = 0 := by omega
      have k0 : (0 : Int) ≤ (k : Int) + 1 := by omega
      obtain ⟨s0, s1⟩ := (HR.out.grown G).2 k hlt
      obtain ⟨s2, s3⟩ := (HR.out.grown G).2 m hmm
      have hb := (HR.out.grown G).1
      have i0 : (0 : Int) ≤ (k : Int) := by omega
      have i1 : (k : Int) < (p.length : Int) := by omega
      have i2 : (m : Int) < (p.length : Int) := by omega
      have hb1 : b < wr.heap.size + 1 := by omega
      have hb2 : b < wr.heap.size + 1 + 1 := by omega
      have y1 : w.heap.size < wr.heap.size + 1 := by omega
      have y2 : w.heap.size < wr.heap.size + 1 + 1 := by omega
      have E : Hid (sumN (gA p x) (k + 1) = sumN (gA p x) k + ((cr (at' p k) (at' p m) x).natAbs : Int)) := Lib.hid (by rw [← hm]; rfl)
      obtain ⟨b0, b1⟩ := sum_bd V.out X.out k hk
      obtain ⟨c0, c1⟩ := cr_abs (V.out.2.1 k hlt) (V.out.2.1 m hmm) X.out
      obtain ⟨t, ht⟩ : ∃ t, sumN (gA p x) k = t := ⟨_, rfl⟩
      obtain ⟨z, hz⟩ : ∃ z, cr (at' p k) (at' p m) x = z := ⟨_, rfl⟩
      have CX : Hid (∀ w, Calls Try.prog 29 #[.agg #[.int .i64 (at' p k).1, .int .i64 (at' p k).2], .agg #[.int .i64 (at' p m).1, .int .i64 (at' p m).2], .agg #[.int .i64 x.1, .int .i64 x.2]] w fun e w' => e = .returned (.int .i64 z) ∧ ((w.alloc (.cells #[.int .i64 (at' p k).1, .int .i64 (at' p k).2] 24)).alloc (.cells #[.int .i64 (at' p m).1, .int .i64 (at' p m).2] 24)).alloc (.cells #[.int .i64 x.1, .int .i64 x.2] 24) = w') := Lib.hid (fun w => by rw [← hz]; exact cross_x _ _ _ w (V.out.2.1 k hlt) (V.out.2.1 m hmm) X.out)
      rw [ht] at b0 b1 E ⊢
      rw [hz] at c0 c1 E
      obtain ⟨u, hu⟩ : ∃ u : Int, (z.natAbs : Int) = u := ⟨_, rfl⟩
      have AX : Hid (∀ w, Calls Try.prog 28 #[.int .i64 z] w fun e w' => e = .returned (.int .i64 u) ∧ w = w') := Lib.hid (fun w => by rw [← hu]; exact abs_any z w c0 c1)
      have u0 : 0 ≤ u := by omega
      have u1 : u ≤ 2000000000000 := by omega
      rw [hu] at E
      have WS : IntKind.i64.wrap (t + u) = t + u := IntWalk.i64_in _ ⟨by omega, by omega⟩
      clear ht hz hu hm c0 c1
      go_wp2_with fail
      go_region_held3 (fun w' => w'.cell? ⟨b, o + k * 2, none⟩ = some (.int .i64 (at' p k).1) ∧ w'.cell? ⟨b, o + k * 2 + 1, none⟩ = some (.int .i64 (at' p k).2) ∧ w'.cell? ⟨b, o + m * 2, none⟩ = some (.int .i64 (at' p m).1) ∧ w'.cell? ⟨b, o + m * 2 + 1, none⟩ = some (.int .i64 (at' p m).2) ∧ w'.cell? ⟨w.heap.size, 0, none⟩ = some (.int .i64 x.1) ∧ w'.cell? ⟨w.heap.size, 1, none⟩ = some (.int .i64 x.2)) (simp [go_sem, hb, hb1, hb2, s0, s1, s2, s3, x0, x1, y0, y1, y2])
        (first | (go_at_call 29; refine (CX.out _).mono ?_; rintro e w' ⟨rfl, rfl⟩) | (go_at_call 28; refine (AX.out _).mono ?_; rintro e w' ⟨rfl, rfl⟩))
      clear TM' WK' TM2 WS
      go_wp2_with fail
      go_roundw
      case rel => exact ⟨k + 1, by omega, by go_num, by rw [E.out], by (repeat' (first | (with_reducible exact Grew.refl _) | (with_reducible assumption) | (with_reducible refine Grew.alloc ?_ _ _) | (with_reducible refine Grew.drew ?_) | (with_reducible refine Grew.drewN ?_ _) | (with_reducible refine Grew.setCell ?_ ?_ _) | go_size)), by simp; omega, by simp [go_sem, x0, y0, y1, y2], by simp [go_sem, x1, y0, y1, y2]⟩
      case measure => simp [intOf]; omega
    · have ek : k = p.length := by omega
      subst ek
      have ea := AE.out
      obtain ⟨t, ht⟩ : ∃ t, sumN (gA p x) p.length = t := ⟨_, rfl⟩
      rw [ht] at ea ⊢
      clear ht
      subst ea
      have np' := NP.out
      go_wp2_with fail
      go_ret
      exact ⟨rfl, G⟩

set_option maxRecDepth 100000 in
set_option maxHeartbeats 4000000 in
theorem areas_out (K : Code) (p : List Pt) (x : Pt) (b o c : Nat) (w : World) (N : Int) (H3 : (3 : Int) ≤ (p.length : Int)) (H80 : (p.length : Int) ≤ 80) (HR : Hid (Row w b o p)) (H : Hid (p.length ≤ 80)) (V : Hid (Vl p)) (X : Hid (Plc x)) (NP : Hid (0 < N)) (AR : Hid (∀ w, Sl w (.slice (some ⟨b, o, none⟩) p.length c) p → Calls Try.prog 23 #[.slice (some ⟨b, o, none⟩) p.length c] w fun e w' => e = .returned (.tuple #[.int .i64 N, .int .i64 0]) ∧ Grew w w')) (A : Hid (¬ Hs p x)) (AE : Hid (N < sumN (gA p x) p.length)) : Calls Try.prog 8 #[.slice (some ⟨b, o, none⟩) p.length c, .agg #[.int .i64 x.1, .int .i64 x.2]] w fun e w' => e = .returned (.bool true) ∧ Grew w w' := by
  go_enter Try.func8, Try.ntmps8
  go_wp2_with fail
  refine (head_true K _).mono ?_
  rintro e w1 ⟨rfl, g1⟩
  obtain ⟨c1, f1, z1⟩ := laid g1
  try simp at z1
  have G1 : Grew w w1 := Grew.trans (by (repeat' (first | (with_reducible exact Grew.refl _) | (with_reducible assumption) | (with_reducible refine Grew.alloc ?_ _ _) | (with_reducible refine Grew.drew ?_) | (with_reducible refine Grew.drewN ?_ _) | (with_reducible refine Grew.setCell ?_ ?_ _) | go_size))) g1
  clear g1
  have z1_0 : w.heap.size < w1.heap.size := by omega
  go_wp2_with fail
  refine (few_yes p _ _ ((Sl.of (c := c) HR.out).grown (by (repeat' (first | (with_reducible exact Grew.refl _) | (with_reducible assumption) | (with_reducible refine Grew.alloc ?_ _ _) | (with_reducible refine Grew.drew ?_) | (with_reducible refine Grew.drewN ?_ _) | (with_reducible refine Grew.setCell ?_ ?_ _) | go_size)))) H.out).mono ?_
  rintro e w2 ⟨rfl, g2⟩
  obtain ⟨c2, f2, z2⟩ := laid g2
  try simp at z2
  have G2 : Grew w w2 := Grew.trans (by (repeat' (first | (with_reducible exact Grew.refl _) | (with_reducible assumption) | (with_reducible refine Grew.alloc ?_ _ _) | (with_reducible refine Grew.drew ?_) | (with_reducible refine Grew.drewN ?_ _) | (with_reducible refine Grew.setCell ?_ ?_ _) | go_size))) g2
  clear g2
  have z2_0 : w.heap.size < w2.heap.size := by omega
  go_wp2_with fail
  refine (rvalid_yes p _ _ ((Sl.of (c := c) HR.out).grown (by (repeat' (first | (with_reducible exact Grew.refl _) | (with_reducible assumption) | (with_reducible refine Grew.alloc ?_ _ _) | (with_reducible refine Grew.drew ?_) | (with_reducible refine Grew.drewN ?_ _) | (with_reducible refine Grew.setCell ?_ ?_ _) | go_size)))) H.out V.out).mono ?_
  rintro e w3 ⟨rfl, g3⟩
  obtain ⟨c3, f3, z3⟩ := laid g3
  try simp at z3
  have G3 : Grew w w3 := Grew.trans (by (repeat' (first | (with_reducible exact Grew.refl _) | (with_reducible assumption) | (with_reducible refine Grew.alloc ?_ _ _) | (with_reducible refine Grew.drew ?_) | (with_reducible refine Grew.drewN ?_ _) | (with_reducible refine Grew.setCell ?_ ?_ _) | go_size))) g3
  clear g3
  have z3_0 : w.heap.size < w3.heap.size := by omega
  go_wp2_with fail
  refine (rplace_yes x _ X.out).mono ?_
  rintro e w4 ⟨rfl, g4⟩
  obtain ⟨c4, f4, z4⟩ := laid g4
  try simp at z4
  have G4 : Grew w w4 := Grew.trans (by (repeat' (first | (with_reducible exact Grew.refl _) | (with_reducible assumption) | (with_reducible refine Grew.alloc ?_ _ _) | (with_reducible refine Grew.drew ?_) | (with_reducible refine Grew.drewN ?_ _) | (with_reducible refine Grew.setCell ?_ ?_ _) | go_size))) g4
  clear g4
  have z4_0 : w.heap.size < w4.heap.size := by omega
  go_wp2_with fail
  refine (AR.out _ ((Sl.of (c := c) HR.out).grown (by (repeat' (first | (with_reducible exact Grew.refl _) | (with_reducible assumption) | (with_reducible refine Grew.alloc ?_ _ _) | (with_reducible refine Grew.drew ?_) | (with_reducible refine Grew.drewN ?_ _) | (with_reducible refine Grew.setCell ?_ ?_ _) | go_size))))).mono ?_
  rintro e w5 ⟨rfl, g5⟩
  obtain ⟨c5, f5, z5⟩ := laid g5
  try simp at z5
  have G5 : Grew w w5 := Grew.trans (by (repeat' (first | (with_reducible exact Grew.refl _) | (with_reducible assumption) | (with_reducible refine Grew.alloc ?_ _ _) | (with_reducible refine Grew.drew ?_) | (with_reducible refine Grew.drewN ?_ _) | (with_reducible refine Grew.setCell ?_ ?_ _) | go_size))) g5
  clear g5
  have z5_0 : w.heap.size < w5.heap.size := by omega
  go_wp2_with fail
  refine (has_no K p x _ _ ((Sl.of (c := c) HR.out).grown (by (repeat' (first | (with_reducible exact Grew.refl _) | (with_reducible assumption) | (with_reducible refine Grew.alloc ?_ _ _) | (with_reducible refine Grew.drew ?_) | (with_reducible refine Grew.drewN ?_ _) | (with_reducible refine Grew.setCell ?_ ?_ _) | go_size)))) V.out X.out A.out).mono ?_
  rintro e w6 ⟨rfl, g6⟩
  obtain ⟨c6, f6, z6⟩ := laid g6
  try simp at z6
  have G6 : Grew w w6 := Grew.trans (by (repeat' (first | (with_reducible exact Grew.refl _) | (with_reducible assumption) | (with_reducible refine Grew.alloc ?_ _ _) | (with_reducible refine Grew.drew ?_) | (with_reducible refine Grew.drewN ?_ _) | (with_reducible refine Grew.setCell ?_ ?_ _) | go_size))) g6
  clear g6
  have z6_0 : w.heap.size < w6.heap.size := by omega
  go_wp2_with fail
  have x0 : w6.cell? ⟨w.heap.size, 0, none⟩ = some (.int .i64 x.1) := by simp [go_sem, *]
  have x1 : w6.cell? ⟨w.heap.size, 1, none⟩ = some (.int .i64 x.2) := by simp [go_sem, *]
  clear c1 f1 c2 f2 c3 f3 c4 f4 c5 f5 c6 f6
  clear z1 G1 z1_0 z2 G2 z2_0 z3 G3 z3_0 z4 G4 z4_0 z5 G5 z5_0
  go_loopw [10, 45] (fun s i wr => ∃ k : Nat, k ≤ p.length ∧ i = .int .i64 k ∧ s = .int .i64 (sumN (gA p x) k) ∧ Grew w wr ∧ w.heap.size < wr.heap.size ∧ wr.cell? ⟨w.heap.size, 0, none⟩ = some (.int .i64 x.1) ∧ wr.cell? ⟨w.heap.size, 1, none⟩ = some (.int .i64 x.2)) (fun _ i _ => p.length - (intOf i).toNat)
  case atStart => exact ⟨0, Nat.zero_le _, rfl, rfl, G6, by omega, x0, x1⟩
  case round =>
    clear x0 x1 z6 z6_0 G6
    obtain ⟨k, hk, rfl, rfl, G, y0, x0, x1⟩ := hrel
    by_cases hlt : k < p.length
    · obtain ⟨m, hm⟩ : ∃ m, (k + 1) % p.length = m := ⟨_, rfl⟩
      have hmm : m < p.length := by rw [← hm]; exact Nat.mod_lt _ (by omega)
      have TM' : ((k : Int) + 1).tmod (p.length : Int) = (m : Int) := by
        rw [← hm, Int.natCast_emod, Int.natCast_add]
        exact Int.tmod_eq_emod_of_nonneg (by omega)
      have WK' : IntKind.i64.wrap ((k : Int) + 1) = (k : Int) + 1 := IntWalk.i64_in _ ⟨by omega, by omega⟩
      have TM2 : ((k : Int) + 1) % (p.length : Int) = (m : Int) := by rw [← TM']; exact (Int.tmod_eq_emod_of_nonneg (by omega)).symm
      have nz : (p.length : Int) ≠ 0 := by omega
      have nz2 : ((p.length : Int) == 0) = false := by rw [beq_eq_false_iff_ne]; omega
      have nz3 : ¬ p.length = 0 := by omega
      have k0 : (0 : Int) ≤ (k : Int) + 1 := by omega
      obtain ⟨s0, s1⟩ := (HR.out.grown G).2 k hlt
      obtain ⟨s2, s3⟩ := (HR.out.grown G).2 m hmm
      have hb := (HR.out.grown G).1
      have i0 : (0 : Int) ≤ (k : Int) := by omega
      have i1 : (k : Int) < (p.length : Int) := by omega
      have i2 : (m : Int) < (p.length : Int) := by omega
      have hb1 : b < wr.heap.size + 1 := by omega
      have hb2 : b < wr.heap.size + 1 + 1 := by omega
      have y1 : w.heap.size < wr.heap.size + 1 := by omega
      have y2 : w.heap.size < wr.heap.size + 1 + 1 := by omega
      have E : Hid (sumN (gA p x) (k + 1) = sumN (gA p x) k + ((cr (at' p k) (at' p m) x).natAbs : Int)) := Lib.hid (by rw [← hm]; rfl)
      obtain ⟨b0, b1⟩ := sum_bd V.out X.out k hk
      obtain ⟨c0, c1⟩ := cr_abs (V.out.2.1 k hlt) (V.out.2.1 m hmm) X.out
      obtain ⟨t, ht⟩ : ∃ t, sumN (gA p x) k = t := ⟨_, rfl⟩
      obtain ⟨z, hz⟩ : ∃ z, cr (at' p k) (at' p m) x = z := ⟨_, rfl⟩
      have CX : Hid (∀ w, Calls Try.prog 29 #[.agg #[.int .i64 (at' p k).1, .int .i64 (at' p k).2], .agg #[.int .i64 (at' p m).1, .int .i64 (at' p m).2], .agg #[.int .i64 x.1, .int .i64 x.2]] w fun e w' => e = .returned (.int .i64 z) ∧ ((w.alloc (.cells #[.int .i64 (at' p k).1, .int .i64 (at' p k).2] 24)).alloc (.cells #[.int .i64 (at' p m).1, .int .i64 (at' p m).2] 24)).alloc (.cells #[.int .i64 x.1, .int .i64 x.2] 24) = w') := Lib.hid (fun w => by rw [← hz]; exact cross_x _ _ _ w (V.out.2.1 k hlt) (V.out.2.1 m hmm) X.out)
      rw [ht] at b0 b1 E ⊢
      rw [hz] at c0 c1 E
      obtain ⟨u, hu⟩ : ∃ u : Int, (z.natAbs : Int) = u := ⟨_, rfl⟩
      have AX : Hid (∀ w, Calls Try.prog 28 #[.int .i64 z] w fun e w' => e = .returned (.int .i64 u) ∧ w = w') := Lib.hid (fun w => by rw [← hu]; exact abs_any z w c0 c1)
      have u0 : 0 ≤ u := by omega
      have u1 : u ≤ 2000000000000 := by omega
      rw [hu] at E
      have WS : IntKind.i64.wrap (t + u) = t + u := IntWalk.i64_in _ ⟨by omega, by omega⟩
      clear ht hz hu hm c0 c1
      go_wp2_with fail
      go_region_held3 (fun w' => w'.cell? ⟨b, o + k * 2, none⟩ = some (.int .i64 (at' p k).1) ∧ w'.cell? ⟨b, o + k * 2 + 1, none⟩ = some (.int .i64 (at' p k).2) ∧ w'.cell? ⟨b, o + m * 2, none⟩ = some (.int .i64 (at' p m).1) ∧ w'.cell? ⟨b, o + m * 2 + 1, none⟩ = some (.int .i64 (at' p m).2) ∧ w'.cell? ⟨w.heap.size, 0, none⟩ = some (.int .i64 x.1) ∧ w'.cell? ⟨w.heap.size, 1, none⟩ = some (.int .i64 x.2)) (simp [go_sem, hb, hb1, hb2, s0, s1, s2, s3, x0, x1, y0, y1, y2])
        (first | (go_at_call 29; refine (CX.out _).mono ?_; rintro e w' ⟨rfl, rfl⟩) | (go_at_call 28; refine (AX.out _).mono ?_; rintro e w' ⟨rfl, rfl⟩))
      clear TM' WK' TM2 WS
      go_wp2_with fail
      go_roundw
      case rel => exact ⟨k + 1, by omega, by go_num, by rw [E.out], by (repeat' (first | (with_reducible exact Grew.refl _) | (with_reducible assumption) | (with_reducible refine Grew.alloc ?_ _ _) | (with_reducible refine Grew.drew ?_) | (with_reducible refine Grew.drewN ?_ _) | (with_reducible refine Grew.setCell ?_ ?_ _) | go_size)), by simp; omega, by simp [go_sem, x0, y0, y1, y2], by simp [go_sem, x1, y0, y1, y2]⟩
      case measure => simp [intOf]; omega
    · have ek : k = p.length := by omega
      subst ek
      have ea := AE.out
      obtain ⟨t, ht⟩ : ∃ t, sumN (gA p x) p.length = t := ⟨_, rfl⟩
      rw [ht] at ea ⊢
      clear ht
      have e2 : (t == N) = false := by rw [beq_eq_false_iff_ne]; omega
      have np' := NP.out
      go_wp2_with fail
      go_ret
      exact ⟨rfl, G⟩

set_option maxRecDepth 100000 in
set_option maxHeartbeats 4000000 in
theorem areas_true (K : Code) (p : List Pt) (x : Pt) (v : Value) (w : World) (hs : Sl w v p) : Calls Try.prog 8 #[v, .agg #[.int .i64 x.1, .int .i64 x.2]] w fun e w' => e = .returned (.bool true) ∧ Grew w w' := by
  have HS := Lib.hid hs
  by_cases h : p.length ≤ 80
  · have H := Lib.hid h
    by_cases hv : Vl p
    · have V := Lib.hid hv
      obtain ⟨b, o, c, rfl, hr⟩ := hs.row (fun e => by rw [e] at hv; exact absurd hv.1.1 (by decide))
      have HR := Lib.hid hr
      by_cases h3 : 3 ≤ p.length
      · by_cases hx : Plc x
        · have NP := area_pos (hv.2.2.2 (by omega)) h3
          have AR : Hid (∀ w, Sl w (.slice (some ⟨b, o, none⟩) p.length c) p → Calls Try.prog 23 #[.slice (some ⟨b, o, none⟩) p.length c] w fun e w' => e = .returned (.tuple #[.int .i64 (area p.length (at' p)), .int .i64 0]) ∧ Grew w w') := Lib.hid (fun w s => K.area_ok p _ w s hv)
          by_cases ha : Hs p x
          · exact areas_in K p x b o c w _ (by omega) (by omega) HR H V (Lib.hid hx) (Lib.hid NP) AR (Lib.hid ha) (Lib.hid (area_in (by omega) ((hs3 h3).1 ha)))
          · exact areas_out K p x b o c w _ (by omega) (by omega) HR H V (Lib.hid hx) (Lib.hid NP) AR (Lib.hid ha) (Lib.hid (area_out (by omega) (fun t => ha ((hs3 h3).2 t))))
        · have X := Lib.hid hx
          have h3' : (3 : Int) ≤ (p.length : Int) := by omega
          clear h hv hs hr hx h3 HS
          go_enter Try.func8, Try.ntmps8
          go_wp2_with fail
          refine (head_true K _).mono ?_
          rintro e w1 ⟨rfl, g1⟩
          obtain ⟨c1, f1, z1⟩ := laid g1
          try simp at z1
          have G1 : Grew w w1 := Grew.trans (by (repeat' (first | (with_reducible exact Grew.refl _) | (with_reducible assumption) | (with_reducible refine Grew.alloc ?_ _ _) | (with_reducible refine Grew.drew ?_) | (with_reducible refine Grew.drewN ?_ _) | (with_reducible refine Grew.setCell ?_ ?_ _) | go_size))) g1
          clear g1
          have z1_0 : w.heap.size < w1.heap.size := by omega
          go_wp2_with fail
          refine (few_yes p _ _ ((Sl.of (c := c) HR.out).grown (by (repeat' (first | (with_reducible exact Grew.refl _) | (with_reducible assumption) | (with_reducible refine Grew.alloc ?_ _ _) | (with_reducible refine Grew.drew ?_) | (with_reducible refine Grew.drewN ?_ _) | (with_reducible refine Grew.setCell ?_ ?_ _) | go_size)))) H.out).mono ?_
          rintro e w2 ⟨rfl, g2⟩
          obtain ⟨c2, f2, z2⟩ := laid g2
          try simp at z2
          have G2 : Grew w w2 := Grew.trans (by (repeat' (first | (with_reducible exact Grew.refl _) | (with_reducible assumption) | (with_reducible refine Grew.alloc ?_ _ _) | (with_reducible refine Grew.drew ?_) | (with_reducible refine Grew.drewN ?_ _) | (with_reducible refine Grew.setCell ?_ ?_ _) | go_size))) g2
          clear g2
          have z2_0 : w.heap.size < w2.heap.size := by omega
          go_wp2_with fail
          refine (rvalid_yes p _ _ ((Sl.of (c := c) HR.out).grown (by (repeat' (first | (with_reducible exact Grew.refl _) | (with_reducible assumption) | (with_reducible refine Grew.alloc ?_ _ _) | (with_reducible refine Grew.drew ?_) | (with_reducible refine Grew.drewN ?_ _) | (with_reducible refine Grew.setCell ?_ ?_ _) | go_size)))) H.out V.out).mono ?_
          rintro e w3 ⟨rfl, g3⟩
          obtain ⟨c3, f3, z3⟩ := laid g3
          try simp at z3
          have G3 : Grew w w3 := Grew.trans (by (repeat' (first | (with_reducible exact Grew.refl _) | (with_reducible assumption) | (with_reducible refine Grew.alloc ?_ _ _) | (with_reducible refine Grew.drew ?_) | (with_reducible refine Grew.drewN ?_ _) | (with_reducible refine Grew.setCell ?_ ?_ _) | go_size))) g3
          clear g3
          have z3_0 : w.heap.size < w3.heap.size := by omega
          go_wp2_with fail
          refine (rplace_no x _ X.out).mono ?_
          rintro e w4 ⟨rfl, g4⟩
          obtain ⟨c4, f4, z4⟩ := laid g4
          try simp at z4
          have G4 : Grew w w4 := Grew.trans (by (repeat' (first | (with_reducible exact Grew.refl _) | (with_reducible assumption) | (with_reducible refine Grew.alloc ?_ _ _) | (with_reducible refine Grew.drew ?_) | (with_reducible refine Grew.drewN ?_ _) | (with_reducible refine Grew.setCell ?_ ?_ _) | go_size))) g4
          clear g4
          have z4_0 : w.heap.size < w4.heap.size := by omega
          go_wp2_with fail
          go_ret
          exact ⟨rfl, by (repeat' (first | (with_reducible exact Grew.refl _) | (with_reducible assumption) | (with_reducible refine Grew.alloc ?_ _ _) | (with_reducible refine Grew.drew ?_) | (with_reducible refine Grew.drewN ?_ _) | (with_reducible refine Grew.setCell ?_ ?_ _) | go_size))⟩
      · have h3' : (p.length : Int) < 3 := by omega
        clear h hv hs hr h3 HS
        go_enter Try.func8, Try.ntmps8
        go_wp2_with fail
        refine (head_true K _).mono ?_
        rintro e w1 ⟨rfl, g1⟩
        obtain ⟨c1, f1, z1⟩ := laid g1
        try simp at z1
        have G1 : Grew w w1 := Grew.trans (by (repeat' (first | (with_reducible exact Grew.refl _) | (with_reducible assumption) | (with_reducible refine Grew.alloc ?_ _ _) | (with_reducible refine Grew.drew ?_) | (with_reducible refine Grew.drewN ?_ _) | (with_reducible refine Grew.setCell ?_ ?_ _) | go_size))) g1
        clear g1
        have z1_0 : w.heap.size < w1.heap.size := by omega
        go_wp2_with fail
        refine (few_yes p _ _ ((Sl.of (c := c) HR.out).grown (by (repeat' (first | (with_reducible exact Grew.refl _) | (with_reducible assumption) | (with_reducible refine Grew.alloc ?_ _ _) | (with_reducible refine Grew.drew ?_) | (with_reducible refine Grew.drewN ?_ _) | (with_reducible refine Grew.setCell ?_ ?_ _) | go_size)))) H.out).mono ?_
        rintro e w2 ⟨rfl, g2⟩
        obtain ⟨c2, f2, z2⟩ := laid g2
        try simp at z2
        have G2 : Grew w w2 := Grew.trans (by (repeat' (first | (with_reducible exact Grew.refl _) | (with_reducible assumption) | (with_reducible refine Grew.alloc ?_ _ _) | (with_reducible refine Grew.drew ?_) | (with_reducible refine Grew.drewN ?_ _) | (with_reducible refine Grew.setCell ?_ ?_ _) | go_size))) g2
        clear g2
        have z2_0 : w.heap.size < w2.heap.size := by omega
        go_wp2_with fail
        refine (rvalid_yes p _ _ ((Sl.of (c := c) HR.out).grown (by (repeat' (first | (with_reducible exact Grew.refl _) | (with_reducible assumption) | (with_reducible refine Grew.alloc ?_ _ _) | (with_reducible refine Grew.drew ?_) | (with_reducible refine Grew.drewN ?_ _) | (with_reducible refine Grew.setCell ?_ ?_ _) | go_size)))) H.out V.out).mono ?_
        rintro e w3 ⟨rfl, g3⟩
        obtain ⟨c3, f3, z3⟩ := laid g3
        try simp at z3
        have G3 : Grew w w3 := Grew.trans (by (repeat' (first | (with_reducible exact Grew.refl _) | (with_reducible assumption) | (with_reducible refine Grew.alloc ?_ _ _) | (with_reducible refine Grew.drew ?_) | (with_reducible refine Grew.drewN ?_ _) | (with_reducible refine Grew.setCell ?_ ?_ _) | go_size))) g3
        clear g3
        have z3_0 : w.heap.size < w3.heap.size := by omega
        go_wp2_with fail
        go_ret
        exact ⟨rfl, by (repeat' (first | (with_reducible exact Grew.refl _) | (with_reducible assumption) | (with_reducible refine Grew.alloc ?_ _ _) | (with_reducible refine Grew.drew ?_) | (with_reducible refine Grew.drewN ?_ _) | (with_reducible refine Grew.setCell ?_ ?_ _) | go_size))⟩
    · have N := Lib.hid hv
      clear hv hs h
      go_enter Try.func8, Try.ntmps8
      go_wp2_with fail
      refine (head_true K _).mono ?_
      rintro e w1 ⟨rfl, g1⟩
      obtain ⟨c1, f1, z1⟩ := laid g1
      try simp at z1
      have G1 : Grew w w1 := Grew.trans (by (repeat' (first | (with_reducible exact Grew.refl _) | (with_reducible assumption) | (with_reducible refine Grew.alloc ?_ _ _) | (with_reducible refine Grew.drew ?_) | (with_reducible refine Grew.drewN ?_ _) | (with_reducible refine Grew.setCell ?_ ?_ _) | go_size))) g1
      clear g1
      have z1_0 : w.heap.size < w1.heap.size := by omega
      go_wp2_with fail
      refine (few_yes p v _ (HS.out.grown (by (repeat' (first | (with_reducible exact Grew.refl _) | (with_reducible assumption) | (with_reducible refine Grew.alloc ?_ _ _) | (with_reducible refine Grew.drew ?_) | (with_reducible refine Grew.drewN ?_ _) | (with_reducible refine Grew.setCell ?_ ?_ _) | go_size)))) H.out).mono ?_
      rintro e w2 ⟨rfl, g2⟩
      obtain ⟨c2, f2, z2⟩ := laid g2
      try simp at z2
      have G2 : Grew w w2 := Grew.trans (by (repeat' (first | (with_reducible exact Grew.refl _) | (with_reducible assumption) | (with_reducible refine Grew.alloc ?_ _ _) | (with_reducible refine Grew.drew ?_) | (with_reducible refine Grew.drewN ?_ _) | (with_reducible refine Grew.setCell ?_ ?_ _) | go_size))) g2
      clear g2
      have z2_0 : w.heap.size < w2.heap.size := by omega
      go_wp2_with fail
      refine (rvalid_no p v _ (HS.out.grown (by (repeat' (first | (with_reducible exact Grew.refl _) | (with_reducible assumption) | (with_reducible refine Grew.alloc ?_ _ _) | (with_reducible refine Grew.drew ?_) | (with_reducible refine Grew.drewN ?_ _) | (with_reducible refine Grew.setCell ?_ ?_ _) | go_size)))) H.out N.out).mono ?_
      rintro e w3 ⟨rfl, g3⟩
      obtain ⟨c3, f3, z3⟩ := laid g3
      try simp at z3
      have G3 : Grew w w3 := Grew.trans (by (repeat' (first | (with_reducible exact Grew.refl _) | (with_reducible assumption) | (with_reducible refine Grew.alloc ?_ _ _) | (with_reducible refine Grew.drew ?_) | (with_reducible refine Grew.drewN ?_ _) | (with_reducible refine Grew.setCell ?_ ?_ _) | go_size))) g3
      clear g3
      have z3_0 : w.heap.size < w3.heap.size := by omega
      go_wp2_with fail
      go_ret
      exact ⟨rfl, by (repeat' (first | (with_reducible exact Grew.refl _) | (with_reducible assumption) | (with_reducible refine Grew.alloc ?_ _ _) | (with_reducible refine Grew.drew ?_) | (with_reducible refine Grew.drewN ?_ _) | (with_reducible refine Grew.setCell ?_ ?_ _) | go_size))⟩
  · have H := Lib.hid h
    clear h hs
    go_enter Try.func8, Try.ntmps8
    go_wp2_with fail
    refine (head_true K _).mono ?_
    rintro e w1 ⟨rfl, g1⟩
    obtain ⟨c1, f1, z1⟩ := laid g1
    try simp at z1
    have G1 : Grew w w1 := Grew.trans (by (repeat' (first | (with_reducible exact Grew.refl _) | (with_reducible assumption) | (with_reducible refine Grew.alloc ?_ _ _) | (with_reducible refine Grew.drew ?_) | (with_reducible refine Grew.drewN ?_ _) | (with_reducible refine Grew.setCell ?_ ?_ _) | go_size))) g1
    clear g1
    have z1_0 : w.heap.size < w1.heap.size := by omega
    go_wp2_with fail
    refine (few_no p v _ (HS.out.grown (by (repeat' (first | (with_reducible exact Grew.refl _) | (with_reducible assumption) | (with_reducible refine Grew.alloc ?_ _ _) | (with_reducible refine Grew.drew ?_) | (with_reducible refine Grew.drewN ?_ _) | (with_reducible refine Grew.setCell ?_ ?_ _) | go_size)))) H.out).mono ?_
    rintro e w2 ⟨rfl, g2⟩
    obtain ⟨c2, f2, z2⟩ := laid g2
    try simp at z2
    have G2 : Grew w w2 := Grew.trans (by (repeat' (first | (with_reducible exact Grew.refl _) | (with_reducible assumption) | (with_reducible refine Grew.alloc ?_ _ _) | (with_reducible refine Grew.drew ?_) | (with_reducible refine Grew.drewN ?_ _) | (with_reducible refine Grew.setCell ?_ ?_ _) | go_size))) g2
    clear g2
    have z2_0 : w.heap.size < w2.heap.size := by omega
    go_wp2_with fail
    go_ret
    exact ⟨rfl, by (repeat' (first | (with_reducible exact Grew.refl _) | (with_reducible assumption) | (with_reducible refine Grew.alloc ?_ _ _) | (with_reducible refine Grew.drew ?_) | (with_reducible refine Grew.drewN ?_ _) | (with_reducible refine Grew.setCell ?_ ?_ _) | go_size))⟩
end Hl
end Go.Proofs.Ythcfbfgfpophmaa
