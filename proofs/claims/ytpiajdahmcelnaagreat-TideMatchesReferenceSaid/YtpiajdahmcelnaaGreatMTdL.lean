/-
  The landed package tide: Drift.
-/
import Derived.Deep.CutRange
import Derived.Test.YtpiajdahmcelnaaGreatMHullOwn
import Derived.Test.YtpiajdahmcelnaaGreatMHullCon
namespace Go.Proofs.YtpiajdahmcelnaaGreat
open Go.RowKit Hl
namespace Td
set_option maxRecDepth 100000
/-- The corners of the drift. -/
def drl (k : Bd) (n : Int) : List Pt := [((Ca k.a k.b n).1, (Ca k.c k.d n).1), ((Ca k.a k.b n).2, (Ca k.c k.d n).1), ((Ca k.a k.b n).2, (Ca k.c k.d n).2), ((Ca k.a k.b n).1, (Ca k.c k.d n).2)]
set_option maxHeartbeats 4000000 in
theorem drift_no (K : Hl.Code) (t : Ed) (u : Value) (lo hi : Pt) (c d : Int) (w : World) (hs : Rs w u t.l) (hl : t.l.length ≤ 9223372036854775807) (hb : ¬ BOk t lo hi c d) :
    Calls Tryz.prog 12 #[tv t u, .agg #[.int .i64 lo.1, .int .i64 lo.2], .agg #[.int .i64 hi.1, .int .i64 hi.2], .int .i64 c, .int .i64 d] w fun e w' => e = .returned (.tuple #[.slice none 0 0, .int .i64 1]) ∧ Grew w w' := by
  have BC : Hid (∀ W, Grew w W → Calls Tryz.prog 10 #[tv t u, .agg #[.int .i64 lo.1, .int .i64 lo.2], .agg #[.int .i64 hi.1, .int .i64 hi.2], .int .i64 c, .int .i64 d] W fun e w' => e = .returned (.tuple #[.agg #[.int .i64 0, .int .i64 0, .int .i64 0, .int .i64 (bA t lo hi c d).1.a, .int .i64 (bA t lo hi c d).1.b, .int .i64 (bA t lo hi c d).1.c, .int .i64 (bA t lo hi c d).1.d, .int .i64 (bA t lo hi c d).1.e, .int .i64 (bA t lo hi c d).1.f], .int .i64 (bA t lo hi c d).2]) ∧ Grew W w') := Lib.hid (fun W g => bound_c K t u lo hi c d W (hs.grew g) hl)
  rw [bA_no hb] at BC
  simp only at BC
  unfold tv at BC ⊢
  clear K hs hb
  go_enter Tryz.func12, Tryz.ntmps12
  go_wp2_with fail
  refine (BC.out _ (by (repeat' (first | (with_reducible exact Grew.refl _) | (with_reducible assumption) | (with_reducible refine Grew.alloc ?_ _ _) | (with_reducible refine Grew.drew ?_) | (with_reducible refine Grew.drewN ?_ _) | (with_reducible refine Grew.setCell ?_ ?_ _) | go_size)))).mono ?_
  rintro e w1 ⟨rfl, g1⟩
  obtain ⟨c1, f1, z1⟩ := laid g1
  try simp at z1
  have G1 : Grew w w1 := Grew.trans (by (repeat' (first | (with_reducible exact Grew.refl _) | (with_reducible assumption) | (with_reducible refine Grew.alloc ?_ _ _) | (with_reducible refine Grew.drew ?_) | (with_reducible refine Grew.drewN ?_ _) | (with_reducible refine Grew.setCell ?_ ?_ _) | go_size))) g1
  clear g1
  have z1_0 : w.heap.size < w1.heap.size := by omega
  have z1_1 : w.heap.size + 1 < w1.heap.size := by omega
  have z1_2 : w.heap.size + 1 + 1 < w1.heap.size := by omega
  go_wp2_with fail
  go_ret2
  exact ⟨rfl, (by (repeat' (first | (with_reducible exact Grew.refl _) | (with_reducible assumption) | (with_reducible refine Grew.alloc ?_ _ _) | (with_reducible refine Grew.drew ?_) | (with_reducible refine Grew.drewN ?_ _) | (with_reducible refine Grew.setCell ?_ ?_ _) | go_size)))⟩
set_option maxHeartbeats 4000000 in
theorem drift_far (K : Hl.Code) (t : Ed) (u : Value) (lo hi : Pt) (c d : Int) (w : World) (hs : Rs w u t.l) (hl : t.l.length ≤ 9223372036854775807) (hb : BOk t lo hi c d) (hf : 100000 < d - c) :
    Calls Tryz.prog 12 #[tv t u, .agg #[.int .i64 lo.1, .int .i64 lo.2], .agg #[.int .i64 hi.1, .int .i64 hi.2], .int .i64 c, .int .i64 d] w fun e w' => e = .returned (.tuple #[.slice none 0 0, .int .i64 1]) ∧ Grew w w' := by
  have BC : Hid (∀ W, Grew w W → Calls Tryz.prog 10 #[tv t u, .agg #[.int .i64 lo.1, .int .i64 lo.2], .agg #[.int .i64 hi.1, .int .i64 hi.2], .int .i64 c, .int .i64 d] W fun e w' => e = .returned (.tuple #[.agg #[.int .i64 0, .int .i64 0, .int .i64 0, .int .i64 (bA t lo hi c d).1.a, .int .i64 (bA t lo hi c d).1.b, .int .i64 (bA t lo hi c d).1.c, .int .i64 (bA t lo hi c d).1.d, .int .i64 (bA t lo hi c d).1.e, .int .i64 (bA t lo hi c d).1.f], .int .i64 (bA t lo hi c d).2]) ∧ Grew W w') := Lib.hid (fun W g => bound_c K t u lo hi c d W (hs.grew g) hl)
  rw [bA_yes hb] at BC
  simp only at BC
  have hT : 0 ≤ c ∧ c ≤ d ∧ d ≤ 1000000000 := hb.2.2
  obtain ⟨t0, t1, t2⟩ := hT
  unfold tv at BC ⊢
  clear K hs hb
  have j1 : ¬ d - c ≤ 100000 := by omega
  go_enter Tryz.func12, Tryz.ntmps12
  go_wp2_with fail
  refine (BC.out _ (by (repeat' (first | (with_reducible exact Grew.refl _) | (with_reducible assumption) | (with_reducible refine Grew.alloc ?_ _ _) | (with_reducible refine Grew.drew ?_) | (with_reducible refine Grew.drewN ?_ _) | (with_reducible refine Grew.setCell ?_ ?_ _) | go_size)))).mono ?_
  rintro e w1 ⟨rfl, g1⟩
  obtain ⟨c1, f1, z1⟩ := laid g1
  try simp at z1
  have G1 : Grew w w1 := Grew.trans (by (repeat' (first | (with_reducible exact Grew.refl _) | (with_reducible assumption) | (with_reducible refine Grew.alloc ?_ _ _) | (with_reducible refine Grew.drew ?_) | (with_reducible refine Grew.drewN ?_ _) | (with_reducible refine Grew.setCell ?_ ?_ _) | go_size))) g1
  clear g1
  have z1_0 : w.heap.size < w1.heap.size := by omega
  have z1_1 : w.heap.size + 1 < w1.heap.size := by omega
  have z1_2 : w.heap.size + 1 + 1 < w1.heap.size := by omega
  go_wp2_with fail
  go_ret2
  exact ⟨rfl, (by (repeat' (first | (with_reducible exact Grew.refl _) | (with_reducible assumption) | (with_reducible refine Grew.alloc ?_ _ _) | (with_reducible refine Grew.drew ?_) | (with_reducible refine Grew.drewN ?_ _) | (with_reducible refine Grew.setCell ?_ ?_ _) | go_size)))⟩
set_option maxHeartbeats 16000000 in
theorem drift_rng (K : Hl.Code) (t : Ed) (u : Value) (lo hi : Pt) (c d : Int) (w : World) (hs : Rs w u t.l) (hl : t.l.length ≤ 9223372036854775807) (hb : BOk t lo hi c d) (hf : d - c ≤ 100000) (hp : ¬ Plcs (drl (OvB t lo hi c d) (d - c))) :
    Calls Tryz.prog 12 #[tv t u, .agg #[.int .i64 lo.1, .int .i64 lo.2], .agg #[.int .i64 hi.1, .int .i64 hi.2], .int .i64 c, .int .i64 d] w fun e w' => e = .returned (.tuple #[.slice none 0 0, .int .i64 3]) ∧ Grew w w' := by
  have BC : Hid (∀ W, Grew w W → Calls Tryz.prog 10 #[tv t u, .agg #[.int .i64 lo.1, .int .i64 lo.2], .agg #[.int .i64 hi.1, .int .i64 hi.2], .int .i64 c, .int .i64 d] W fun e w' => e = .returned (.tuple #[.agg #[.int .i64 0, .int .i64 0, .int .i64 0, .int .i64 (bA t lo hi c d).1.a, .int .i64 (bA t lo hi c d).1.b, .int .i64 (bA t lo hi c d).1.c, .int .i64 (bA t lo hi c d).1.d, .int .i64 (bA t lo hi c d).1.e, .int .i64 (bA t lo hi c d).1.f], .int .i64 (bA t lo hi c d).2]) ∧ Grew W w') := Lib.hid (fun W g => bound_c K t u lo hi c d W (hs.grew g) hl)
  rw [bA_yes hb] at BC
  simp only at BC
  have hT : 0 ≤ c ∧ c ≤ d ∧ d ≤ 1000000000 := hb.2.2
  obtain ⟨t0, t1, t2⟩ := hT
  unfold tv at BC ⊢
  have hS := Ov_bok hb.1 (x0 := bk lo.1) (x1 := bk hi.1) (y0 := bk lo.2) (y1 := bk hi.2) (s0 := sl t.z c) (s1 := sl t.z d) (few_of hb.1 hb.2.1 hb.2.2).2.2.2.1 (few_of hb.1 hb.2.1 hb.2.2).2.1.2.1 (few_of hb.1 hb.2.1 hb.2.2).1.2.1
  change Bok (OvB t lo hi c d) at hS
  generalize OvB t lo hi c d = k at *
  have hDL : drl k (d - c) = [((Ca k.a k.b (d - c)).1, (Ca k.c k.d (d - c)).1), ((Ca k.a k.b (d - c)).2, (Ca k.c k.d (d - c)).1), ((Ca k.a k.b (d - c)).2, (Ca k.c k.d (d - c)).2), ((Ca k.a k.b (d - c)).1, (Ca k.c k.d (d - c)).2)] := rfl
  rw [hDL] at hp
  have HK : Hid (∀ W b, Hl.Row W b 0 [((Ca k.a k.b (d - c)).1, (Ca k.c k.d (d - c)).1), ((Ca k.a k.b (d - c)).2, (Ca k.c k.d (d - c)).1), ((Ca k.a k.b (d - c)).2, (Ca k.c k.d (d - c)).2), ((Ca k.a k.b (d - c)).1, (Ca k.c k.d (d - c)).2)] → Calls Tryz.prog 38 #[.slice (some ⟨b, 0, none⟩) 4 4] W (Empty 1 W)) := Lib.hid (fun W b hw => K.hull_bad _ _ W (Or.inr ⟨b, 0, 4, rfl, hw⟩) (by simp) (Or.inr hp))
  clear hp hDL K
  obtain ⟨⟨s0, s1, s2⟩, ⟨s3, s4, s5⟩, _⟩ := hS
  have QC : Hid (∀ W (p q : Int), ((-5000 ≤ p ∧ p ≤ 5000) ∧ (-5000 ≤ q ∧ q ≤ 5000)) → Calls Tryz.prog 37 #[.agg #[.int .i64 p, .int .i64 q], .int .i64 (d - c)] W fun e w' => e = .returned (.agg #[.int .i64 (Ca p q (d - c)).1, .int .i64 (Ca p q (d - c)).2]) ∧ Grew W w') := Lib.hid (fun W p q h => carried_c p q (d - c) W h.1 h.2 ⟨by omega, hf⟩)
  have HU : Hid ((-5000 ≤ k.a ∧ k.a ≤ 5000) ∧ (-5000 ≤ k.b ∧ k.b ≤ 5000)) := Lib.hid (by omega)
  have HV : Hid ((-5000 ≤ k.c ∧ k.c ≤ 5000) ∧ (-5000 ≤ k.d ∧ k.d ≤ 5000)) := Lib.hid (by omega)
  have jw : IntKind.i64.wrap (d - c) = d - c := by rw [IntKind.wrap_i64]; omega
  clear hs hb s0 s1 s2 s3 s4 s5
  rcases k with ⟨ka, kb, kc, kd, ke, kf⟩
  simp only at *
  have j1 : d - c ≤ 100000 := hf
  go_enter Tryz.func12, Tryz.ntmps12
  go_wp2_with fail
  refine (BC.out _ (by (repeat' (first | (with_reducible exact Grew.refl _) | (with_reducible assumption) | (with_reducible refine Grew.alloc ?_ _ _) | (with_reducible refine Grew.drew ?_) | (with_reducible refine Grew.drewN ?_ _) | (with_reducible refine Grew.setCell ?_ ?_ _) | go_size)))).mono ?_
  rintro e w1 ⟨rfl, g1⟩
  obtain ⟨c1, f1, z1⟩ := laid g1
  try simp at z1
  have G1 : Grew w w1 := Grew.trans (by (repeat' (first | (with_reducible exact Grew.refl _) | (with_reducible assumption) | (with_reducible refine Grew.alloc ?_ _ _) | (with_reducible refine Grew.drew ?_) | (with_reducible refine Grew.drewN ?_ _) | (with_reducible refine Grew.setCell ?_ ?_ _) | go_size))) g1
  clear g1
  have z1_0 : w.heap.size < w1.heap.size := by omega
  have z1_1 : w.heap.size + 1 < w1.heap.size := by omega
  have z1_2 : w.heap.size + 1 + 1 < w1.heap.size := by omega
  clear BC
  go_wp2_with fail
  obtain ⟨w2, hw2⟩ : ∃ w2, w1.alloc (.cells #[.int .i64 0, .int .i64 0, .int .i64 0, .int .i64 ka, .int .i64 kb, .int .i64 kc, .int .i64 kd, .int .i64 ke, .int .i64 kf] 25) = w2 := ⟨_, rfl⟩
  have S0 : w2.cell? ⟨w1.heap.size, 0, none⟩ = some (.int .i64 0) ∧ w2.cell? ⟨w1.heap.size, 1, none⟩ = some (.int .i64 0) ∧ w2.cell? ⟨w1.heap.size, 2, none⟩ = some (.int .i64 0) ∧ w2.cell? ⟨w1.heap.size, 3, none⟩ = some (.int .i64 ka) ∧ w2.cell? ⟨w1.heap.size, 4, none⟩ = some (.int .i64 kb) ∧ w2.cell? ⟨w1.heap.size, 5, none⟩ = some (.int .i64 kc) ∧ w2.cell? ⟨w1.heap.size, 6, none⟩ = some (.int .i64 kd) ∧ w2.cell? ⟨w1.heap.size, 7, none⟩ = some (.int .i64 ke) ∧ w2.cell? ⟨w1.heap.size, 8, none⟩ = some (.int .i64 kf) := by rw [← hw2]; simp [go_sem]
  have G2 : Grew w w2 := by rw [← hw2]; exact G1.alloc _ _
  have zz : w1.heap.size < w2.heap.size := by rw [← hw2]; simp
  have RW : Blk w2 w1.heap.size #[.int .i64 0, .int .i64 0, .int .i64 0, .int .i64 ka, .int .i64 kb, .int .i64 kc, .int .i64 kd, .int .i64 ke, .int .i64 kf] 25 := by rw [← hw2]; exact Blk.new _ _ _
  have KS : Hid (∀ W, Grew w2 W → (W.cell? ⟨w1.heap.size, 0, none⟩ = some (.int .i64 0) ∧ W.cell? ⟨w1.heap.size, 1, none⟩ = some (.int .i64 0) ∧ W.cell? ⟨w1.heap.size, 2, none⟩ = some (.int .i64 0) ∧ W.cell? ⟨w1.heap.size, 3, none⟩ = some (.int .i64 ka) ∧ W.cell? ⟨w1.heap.size, 4, none⟩ = some (.int .i64 kb) ∧ W.cell? ⟨w1.heap.size, 5, none⟩ = some (.int .i64 kc) ∧ W.cell? ⟨w1.heap.size, 6, none⟩ = some (.int .i64 kd) ∧ W.cell? ⟨w1.heap.size, 7, none⟩ = some (.int .i64 ke) ∧ W.cell? ⟨w1.heap.size, 8, none⟩ = some (.int .i64 kf))) := Lib.hid (fun W g => ⟨blkAt (RW.grown g) rfl, blkAt (RW.grown g) rfl, blkAt (RW.grown g) rfl, blkAt (RW.grown g) rfl, blkAt (RW.grown g) rfl, blkAt (RW.grown g) rfl, blkAt (RW.grown g) rfl, blkAt (RW.grown g) rfl, blkAt (RW.grown g) rfl⟩)
  rw [hw2]
  clear c1 f1 z1 hw2 RW
  have u1 : ∀ n : Nat, n < n + 1 + 1 := fun n => by omega
  go_cut [14, 15] from 33 to 44 (fun s14 s15 wx => ∃ B1 B2, s14 = .pointer (some ⟨B1, 0, none⟩) ∧ s15 = .pointer (some ⟨B2, 0, none⟩) ∧ (wx.cell? ⟨B1, 0, none⟩ = some (.int .i64 (Ca ka kb (d - c)).1) ∧ wx.cell? ⟨B1, 1, none⟩ = some (.int .i64 (Ca ka kb (d - c)).2)) ∧ (wx.cell? ⟨B2, 0, none⟩ = some (.int .i64 (Ca kc kd (d - c)).1) ∧ wx.cell? ⟨B2, 1, none⟩ = some (.int .i64 (Ca kc kd (d - c)).2)) ∧ Grew w2 wx)
  case first =>
    go_region_held3 (fun W => W.cell? ⟨w1.heap.size, 0, none⟩ = some (.int .i64 0) ∧ W.cell? ⟨w1.heap.size, 1, none⟩ = some (.int .i64 0) ∧ W.cell? ⟨w1.heap.size, 2, none⟩ = some (.int .i64 0) ∧ W.cell? ⟨w1.heap.size, 3, none⟩ = some (.int .i64 ka) ∧ W.cell? ⟨w1.heap.size, 4, none⟩ = some (.int .i64 kb) ∧ W.cell? ⟨w1.heap.size, 5, none⟩ = some (.int .i64 kc) ∧ W.cell? ⟨w1.heap.size, 6, none⟩ = some (.int .i64 kd) ∧ W.cell? ⟨w1.heap.size, 7, none⟩ = some (.int .i64 ke) ∧ W.cell? ⟨w1.heap.size, 8, none⟩ = some (.int .i64 kf)) (exact KS.out _ (by (repeat' (first | (with_reducible exact Grew.refl _) | (with_reducible assumption) | (with_reducible refine Grew.alloc ?_ _ _) | (with_reducible refine Grew.drew ?_) | (with_reducible refine Grew.drewN ?_ _) | (with_reducible refine Grew.setCell ?_ ?_ _) | go_size))))
      (first
        | (go_at_call_of 37 (Value.agg #[Value.int .i64 ka, Value.int .i64 kb]); refine (QC.out _ _ _ HU.out).mono ?_; rintro e w4 ⟨rfl, g4⟩; obtain ⟨c4, f4, z4⟩ := laid g4; (try simp at z4); (try simp only [World.size_drew, World.cell?_drew] at c4); have G4 : Grew w2 w4 := Grew.trans (by (repeat' (first | (with_reducible exact Grew.refl _) | (with_reducible assumption) | (with_reducible refine Grew.alloc ?_ _ _) | (with_reducible refine Grew.drew ?_) | (with_reducible refine Grew.drewN ?_ _) | (with_reducible refine Grew.setCell ?_ ?_ _) | go_size))) g4; have z4_0 : w1.heap.size < w4.heap.size := (by omega); (try (have z4_1 : w2.heap.size < w4.heap.size := (by omega))); (try (have z4_2 : w2.heap.size + 1 < w4.heap.size := (by omega))); have z4_3 : w2.heap.size < w4.heap.size + 1 := (by omega); clear g4)
        | (go_at_call_of 37 (Value.agg #[Value.int .i64 kc, Value.int .i64 kd]); refine (QC.out _ _ _ HV.out).mono ?_; rintro e w5 ⟨rfl, g5⟩; obtain ⟨c5, f5, z5⟩ := laid g5; (try simp at z5); (try simp only [World.size_drew, World.cell?_drew] at c5); have G5 : Grew w2 w5 := Grew.trans (by (repeat' (first | (with_reducible exact Grew.refl _) | (with_reducible assumption) | (with_reducible refine Grew.alloc ?_ _ _) | (with_reducible refine Grew.drew ?_) | (with_reducible refine Grew.drewN ?_ _) | (with_reducible refine Grew.setCell ?_ ?_ _) | go_size))) g5; have z5_0 : w1.heap.size < w5.heap.size := (by omega); (try (have z5_1 : w2.heap.size < w5.heap.size := (by omega))); (try (have z5_2 : w2.heap.size + 1 < w5.heap.size := (by omega))); (try (have z5_3 : w4.heap.size < w5.heap.size := (by omega))); (try (have z5_4 : w4.heap.size + 1 < w5.heap.size := (by omega))); clear g5))
    all_goals (go_wp2_with fail; go_meet)
    all_goals exact ⟨_, _, rfl, rfl, ⟨by simp [go_sem, *], by simp [go_sem, *]⟩, ⟨by simp [go_sem, *], by simp [go_sem, *]⟩, (by (repeat' (first | (with_reducible exact Grew.refl _) | (with_reducible assumption) | (with_reducible refine Grew.alloc ?_ _ _) | (with_reducible refine Grew.drew ?_) | (with_reducible refine Grew.drewN ?_ _) | (with_reducible refine Grew.setCell ?_ ?_ _) | go_size)))⟩
  case rest =>
    obtain ⟨B1, B2, rfl, rfl, ⟨q0, q1⟩, ⟨q2, q3⟩, G6⟩ := hcut
    have GW := Grew.trans G2 G6
    clear QC HU HV S0 KS G2 G6
    have lb1 := World.block_lt_of_cell? wc _ q0
    have lb2 := World.block_lt_of_cell? wc _ q2
    have RN : Hid (Hl.Row (wc.alloc (.cells #[.int .i64 (Ca ka kb (d - c)).1, .int .i64 (Ca kc kd (d - c)).1, .int .i64 (Ca ka kb (d - c)).2, .int .i64 (Ca kc kd (d - c)).1, .int .i64 (Ca ka kb (d - c)).2, .int .i64 (Ca kc kd (d - c)).2, .int .i64 (Ca ka kb (d - c)).1, .int .i64 (Ca kc kd (d - c)).2] 30)) wc.heap.size 0 [((Ca ka kb (d - c)).1, (Ca kc kd (d - c)).1), ((Ca ka kb (d - c)).2, (Ca kc kd (d - c)).1), ((Ca ka kb (d - c)).2, (Ca kc kd (d - c)).2), ((Ca ka kb (d - c)).1, (Ca kc kd (d - c)).2)]) := Lib.hid (row_new [((Ca ka kb (d - c)).1, (Ca kc kd (d - c)).1), ((Ca ka kb (d - c)).2, (Ca kc kd (d - c)).1), ((Ca ka kb (d - c)).2, (Ca kc kd (d - c)).2), ((Ca ka kb (d - c)).1, (Ca kc kd (d - c)).2)] _ rfl wc _)
    go_wp2_with fail
    refine (HK.out _ _ RN.out).mono ?_
    rintro e w6 ⟨v, rfl, _, g6⟩
    have G6 := Grew.trans (GW.alloc _ _) g6
    clear g6
    go_wp2_with fail
    go_ret2
    exact ⟨rfl, G6⟩
set_option maxHeartbeats 16000000 in
theorem drift_yes (K : Hl.Code) (t : Ed) (u : Value) (lo hi : Pt) (c d : Int) (w : World) (hs : Rs w u t.l) (hl : t.l.length ≤ 9223372036854775807) (hb : BOk t lo hi c d) (hf : d - c ≤ 100000) (hp : Plcs (drl (OvB t lo hi c d) (d - c))) :
    Calls Tryz.prog 12 #[tv t u, .agg #[.int .i64 lo.1, .int .i64 lo.2], .agg #[.int .i64 hi.1, .int .i64 hi.2], .int .i64 c, .int .i64 d] w fun e w' => ∃ q v, IsHull (drl (OvB t lo hi c d) (d - c)) q ∧ Vl q ∧ e = .returned (.tuple #[v, .int .i64 0]) ∧ Sl w' v q ∧ Grew w w' := by
  have BC : Hid (∀ W, Grew w W → Calls Tryz.prog 10 #[tv t u, .agg #[.int .i64 lo.1, .int .i64 lo.2], .agg #[.int .i64 hi.1, .int .i64 hi.2], .int .i64 c, .int .i64 d] W fun e w' => e = .returned (.tuple #[.agg #[.int .i64 0, .int .i64 0, .int .i64 0, .int .i64 (bA t lo hi c d).1.a, .int .i64 (bA t lo hi c d).1.b, .int .i64 (bA t lo hi c d).1.c, .int .i64 (bA t lo hi c d).1.d, .int .i64 (bA t lo hi c d).1.e, .int .i64 (bA t lo hi c d).1.f], .int .i64 (bA t lo hi c d).2]) ∧ Grew W w') := Lib.hid (fun W g => bound_c K t u lo hi c d W (hs.grew g) hl)
  rw [bA_yes hb] at BC
  simp only at BC
  have hT : 0 ≤ c ∧ c ≤ d ∧ d ≤ 1000000000 := hb.2.2
  obtain ⟨t0, t1, t2⟩ := hT
  unfold tv at BC ⊢
  have hS := Ov_bok hb.1 (x0 := bk lo.1) (x1 := bk hi.1) (y0 := bk lo.2) (y1 := bk hi.2) (s0 := sl t.z c) (s1 := sl t.z d) (few_of hb.1 hb.2.1 hb.2.2).2.2.2.1 (few_of hb.1 hb.2.1 hb.2.2).2.1.2.1 (few_of hb.1 hb.2.1 hb.2.2).1.2.1
  change Bok (OvB t lo hi c d) at hS
  generalize OvB t lo hi c d = k at *
  have hDL : drl k (d - c) = [((Ca k.a k.b (d - c)).1, (Ca k.c k.d (d - c)).1), ((Ca k.a k.b (d - c)).2, (Ca k.c k.d (d - c)).1), ((Ca k.a k.b (d - c)).2, (Ca k.c k.d (d - c)).2), ((Ca k.a k.b (d - c)).1, (Ca k.c k.d (d - c)).2)] := rfl
  rw [hDL] at hp ⊢
  have HK : Hid (∀ W b, Hl.Row W b 0 [((Ca k.a k.b (d - c)).1, (Ca k.c k.d (d - c)).1), ((Ca k.a k.b (d - c)).2, (Ca k.c k.d (d - c)).1), ((Ca k.a k.b (d - c)).2, (Ca k.c k.d (d - c)).2), ((Ca k.a k.b (d - c)).1, (Ca k.c k.d (d - c)).2)] → Calls Tryz.prog 38 #[.slice (some ⟨b, 0, none⟩) 4 4] W (HullSays [((Ca k.a k.b (d - c)).1, (Ca k.c k.d (d - c)).1), ((Ca k.a k.b (d - c)).2, (Ca k.c k.d (d - c)).1), ((Ca k.a k.b (d - c)).2, (Ca k.c k.d (d - c)).2), ((Ca k.a k.b (d - c)).1, (Ca k.c k.d (d - c)).2)] W)) := Lib.hid (fun W b hw => K.hull_ok _ _ W (Or.inr ⟨b, 0, 4, rfl, hw⟩) (by simp) (by simp) hp)
  have HV4 : Hid (∀ q, IsHull [((Ca k.a k.b (d - c)).1, (Ca k.c k.d (d - c)).1), ((Ca k.a k.b (d - c)).2, (Ca k.c k.d (d - c)).1), ((Ca k.a k.b (d - c)).2, (Ca k.c k.d (d - c)).2), ((Ca k.a k.b (d - c)).1, (Ca k.c k.d (d - c)).2)] q → Vl q ∧ ¬ 64 < q.length) := Lib.hid (fun q hq => by
    have h4 : q.length ≤ 4 := count_le (at' q) q.length _ (fun _ _ hi hj hne => pg_distinct hq.1 hi hj hne) (fun _ hi => hq.2.1 _ (at_mem hi))
    exact ⟨vl_of hq.1 (by omega) (hull_plcs hq hp), by omega⟩)
  clear hp hDL K
  obtain ⟨⟨s0, s1, s2⟩, ⟨s3, s4, s5⟩, _⟩ := hS
  have QC : Hid (∀ W (p q : Int), ((-5000 ≤ p ∧ p ≤ 5000) ∧ (-5000 ≤ q ∧ q ≤ 5000)) → Calls Tryz.prog 37 #[.agg #[.int .i64 p, .int .i64 q], .int .i64 (d - c)] W fun e w' => e = .returned (.agg #[.int .i64 (Ca p q (d - c)).1, .int .i64 (Ca p q (d - c)).2]) ∧ Grew W w') := Lib.hid (fun W p q h => carried_c p q (d - c) W h.1 h.2 ⟨by omega, hf⟩)
  have HU : Hid ((-5000 ≤ k.a ∧ k.a ≤ 5000) ∧ (-5000 ≤ k.b ∧ k.b ≤ 5000)) := Lib.hid (by omega)
  have HV : Hid ((-5000 ≤ k.c ∧ k.c ≤ 5000) ∧ (-5000 ≤ k.d ∧ k.d ≤ 5000)) := Lib.hid (by omega)
  have jw : IntKind.i64.wrap (d - c) = d - c := by rw [IntKind.wrap_i64]; omega
  clear hs hb s0 s1 s2 s3 s4 s5
  rcases k with ⟨ka, kb, kc, kd, ke, kf⟩
  simp only at *
  have j1 : d - c ≤ 100000 := hf
  go_enter Tryz.func12, Tryz.ntmps12
  go_wp2_with fail
  refine (BC.out _ (by (repeat' (first | (with_reducible exact Grew.refl _) | (with_reducible assumption) | (with_reducible refine Grew.alloc ?_ _ _) | (with_reducible refine Grew.drew ?_) | (with_reducible refine Grew.drewN ?_ _) | (with_reducible refine Grew.setCell ?_ ?_ _) | go_size)))).mono ?_
  rintro e w1 ⟨rfl, g1⟩
  obtain ⟨c1, f1, z1⟩ := laid g1
  try simp at z1
  have G1 : Grew w w1 := Grew.trans (by (repeat' (first | (with_reducible exact Grew.refl _) | (with_reducible assumption) | (with_reducible refine Grew.alloc ?_ _ _) | (with_reducible refine Grew.drew ?_) | (with_reducible refine Grew.drewN ?_ _) | (with_reducible refine Grew.setCell ?_ ?_ _) | go_size))) g1
  clear g1
  have z1_0 : w.heap.size < w1.heap.size := by omega
  have z1_1 : w.heap.size + 1 < w1.heap.size := by omega
  have z1_2 : w.heap.size + 1 + 1 < w1.heap.size := by omega
  clear BC
  go_wp2_with fail
  obtain ⟨w2, hw2⟩ : ∃ w2, w1.alloc (.cells #[.int .i64 0, .int .i64 0, .int .i64 0, .int .i64 ka, .int .i64 kb, .int .i64 kc, .int .i64 kd, .int .i64 ke, .int .i64 kf] 25) = w2 := ⟨_, rfl⟩
  have S0 : w2.cell? ⟨w1.heap.size, 0, none⟩ = some (.int .i64 0) ∧ w2.cell? ⟨w1.heap.size, 1, none⟩ = some (.int .i64 0) ∧ w2.cell? ⟨w1.heap.size, 2, none⟩ = some (.int .i64 0) ∧ w2.cell? ⟨w1.heap.size, 3, none⟩ = some (.int .i64 ka) ∧ w2.cell? ⟨w1.heap.size, 4, none⟩ = some (.int .i64 kb) ∧ w2.cell? ⟨w1.heap.size, 5, none⟩ = some (.int .i64 kc) ∧ w2.cell? ⟨w1.heap.size, 6, none⟩ = some (.int .i64 kd) ∧ w2.cell? ⟨w1.heap.size, 7, none⟩ = some (.int .i64 ke) ∧ w2.cell? ⟨w1.heap.size, 8, none⟩ = some (.int .i64 kf) := by rw [← hw2]; simp [go_sem]
  have G2 : Grew w w2 := by rw [← hw2]; exact G1.alloc _ _
  have zz : w1.heap.size < w2.heap.size := by rw [← hw2]; simp
  have RW : Blk w2 w1.heap.size #[.int .i64 0, .int .i64 0, .int .i64 0, .int .i64 ka, .int .i64 kb, .int .i64 kc, .int .i64 kd, .int .i64 ke, .int .i64 kf] 25 := by rw [← hw2]; exact Blk.new _ _ _
  have KS : Hid (∀ W, Grew w2 W → (W.cell? ⟨w1.heap.size, 0, none⟩ = some (.int .i64 0) ∧ W.cell? ⟨w1.heap.size, 1, none⟩ = some (.int .i64 0) ∧ W.cell? ⟨w1.heap.size, 2, none⟩ = some (.int .i64 0) ∧ W.cell? ⟨w1.heap.size, 3, none⟩ = some (.int .i64 ka) ∧ W.cell? ⟨w1.heap.size, 4, none⟩ = some (.int .i64 kb) ∧ W.cell? ⟨w1.heap.size, 5, none⟩ = some (.int .i64 kc) ∧ W.cell? ⟨w1.heap.size, 6, none⟩ = some (.int .i64 kd) ∧ W.cell? ⟨w1.heap.size, 7, none⟩ = some (.int .i64 ke) ∧ W.cell? ⟨w1.heap.size, 8, none⟩ = some (.int .i64 kf))) := Lib.hid (fun W g => ⟨blkAt (RW.grown g) rfl, blkAt (RW.grown g) rfl, blkAt (RW.grown g) rfl, blkAt (RW.grown g) rfl, blkAt (RW.grown g) rfl, blkAt (RW.grown g) rfl, blkAt (RW.grown g) rfl, blkAt (RW.grown g) rfl, blkAt (RW.grown g) rfl⟩)
  rw [hw2]
  clear c1 f1 z1 hw2 RW
  have u1 : ∀ n : Nat, n < n + 1 + 1 := fun n => by omega
  go_cut [14, 15] from 33 to 44 (fun s14 s15 wx => ∃ B1 B2, s14 = .pointer (some ⟨B1, 0, none⟩) ∧ s15 = .pointer (some ⟨B2, 0, none⟩) ∧ (wx.cell? ⟨B1, 0, none⟩ = some (.int .i64 (Ca ka kb (d - c)).1) ∧ wx.cell? ⟨B1, 1, none⟩ = some (.int .i64 (Ca ka kb (d - c)).2)) ∧ (wx.cell? ⟨B2, 0, none⟩ = some (.int .i64 (Ca kc kd (d - c)).1) ∧ wx.cell? ⟨B2, 1, none⟩ = some (.int .i64 (Ca kc kd (d - c)).2)) ∧ Grew w2 wx)
  case first =>
    go_region_held3 (fun W => W.cell? ⟨w1.heap.size, 0, none⟩ = some (.int .i64 0) ∧ W.cell? ⟨w1.heap.size, 1, none⟩ = some (.int .i64 0) ∧ W.cell? ⟨w1.heap.size, 2, none⟩ = some (.int .i64 0) ∧ W.cell? ⟨w1.heap.size, 3, none⟩ = some (.int .i64 ka) ∧ W.cell? ⟨w1.heap.size, 4, none⟩ = some (.int .i64 kb) ∧ W.cell? ⟨w1.heap.size, 5, none⟩ = some (.int .i64 kc) ∧ W.cell? ⟨w1.heap.size, 6, none⟩ = some (.int .i64 kd) ∧ W.cell? ⟨w1.heap.size, 7, none⟩ = some (.int .i64 ke) ∧ W.cell? ⟨w1.heap.size, 8, none⟩ = some (.int .i64 kf)) (exact KS.out _ (by (repeat' (first | (with_reducible exact Grew.refl _) | (with_reducible assumption) | (with_reducible refine Grew.alloc ?_ _ _) | (with_reducible refine Grew.drew ?_) | (with_reducible refine Grew.drewN ?_ _) | (with_reducible refine Grew.setCell ?_ ?_ _) | go_size))))
      (first
        | (go_at_call_of 37 (Value.agg #[Value.int .i64 ka, Value.int .i64 kb]); refine (QC.out _ _ _ HU.out).mono ?_; rintro e w4 ⟨rfl, g4⟩; obtain ⟨c4, f4, z4⟩ := laid g4; (try simp at z4); (try simp only [World.size_drew, World.cell?_drew] at c4); have G4 : Grew w2 w4 := Grew.trans (by (repeat' (first | (with_reducible exact Grew.refl _) | (with_reducible assumption) | (with_reducible refine Grew.alloc ?_ _ _) | (with_reducible refine Grew.drew ?_) | (with_reducible refine Grew.drewN ?_ _) | (with_reducible refine Grew.setCell ?_ ?_ _) | go_size))) g4; have z4_0 : w1.heap.size < w4.heap.size := (by omega); (try (have z4_1 : w2.heap.size < w4.heap.size := (by omega))); (try (have z4_2 : w2.heap.size + 1 < w4.heap.size := (by omega))); have z4_3 : w2.heap.size < w4.heap.size + 1 := (by omega); clear g4)
        | (go_at_call_of 37 (Value.agg #[Value.int .i64 kc, Value.int .i64 kd]); refine (QC.out _ _ _ HV.out).mono ?_; rintro e w5 ⟨rfl, g5⟩; obtain ⟨c5, f5, z5⟩ := laid g5; (try simp at z5); (try simp only [World.size_drew, World.cell?_drew] at c5); have G5 : Grew w2 w5 := Grew.trans (by (repeat' (first | (with_reducible exact Grew.refl _) | (with_reducible assumption) | (with_reducible refine Grew.alloc ?_ _ _) | (with_reducible refine Grew.drew ?_) | (with_reducible refine Grew.drewN ?_ _) | (with_reducible refine Grew.setCell ?_ ?_ _) | go_size))) g5; have z5_0 : w1.heap.size < w5.heap.size := (by omega); (try (have z5_1 : w2.heap.size < w5.heap.size := (by omega))); (try (have z5_2 : w2.heap.size + 1 < w5.heap.size := (by omega))); (try (have z5_3 : w4.heap.size < w5.heap.size := (by omega))); (try (have z5_4 : w4.heap.size + 1 < w5.heap.size := (by omega))); clear g5))
    all_goals (go_wp2_with fail; go_meet)
    all_goals exact ⟨_, _, rfl, rfl, ⟨by simp [go_sem, *], by simp [go_sem, *]⟩, ⟨by simp [go_sem, *], by simp [go_sem, *]⟩, (by (repeat' (first | (with_reducible exact Grew.refl _) | (with_reducible assumption) | (with_reducible refine Grew.alloc ?_ _ _) | (with_reducible refine Grew.drew ?_) | (with_reducible refine Grew.drewN ?_ _) | (with_reducible refine Grew.setCell ?_ ?_ _) | go_size)))⟩
  case rest =>
    obtain ⟨B1, B2, rfl, rfl, ⟨q0, q1⟩, ⟨q2, q3⟩, G6⟩ := hcut
    have GW := Grew.trans G2 G6
    clear QC HU HV S0 KS G2 G6
    have lb1 := World.block_lt_of_cell? wc _ q0
    have lb2 := World.block_lt_of_cell? wc _ q2
    have RN : Hid (Hl.Row (wc.alloc (.cells #[.int .i64 (Ca ka kb (d - c)).1, .int .i64 (Ca kc kd (d - c)).1, .int .i64 (Ca ka kb (d - c)).2, .int .i64 (Ca kc kd (d - c)).1, .int .i64 (Ca ka kb (d - c)).2, .int .i64 (Ca kc kd (d - c)).2, .int .i64 (Ca ka kb (d - c)).1, .int .i64 (Ca kc kd (d - c)).2] 30)) wc.heap.size 0 [((Ca ka kb (d - c)).1, (Ca kc kd (d - c)).1), ((Ca ka kb (d - c)).2, (Ca kc kd (d - c)).1), ((Ca ka kb (d - c)).2, (Ca kc kd (d - c)).2), ((Ca ka kb (d - c)).1, (Ca kc kd (d - c)).2)]) := Lib.hid (row_new [((Ca ka kb (d - c)).1, (Ca kc kd (d - c)).1), ((Ca ka kb (d - c)).2, (Ca kc kd (d - c)).1), ((Ca ka kb (d - c)).2, (Ca kc kd (d - c)).2), ((Ca ka kb (d - c)).1, (Ca kc kd (d - c)).2)] _ rfl wc _)
    go_wp2_with fail
    refine (HK.out _ _ RN.out).mono ?_
    rintro e w6 ⟨q, hq, ⟨h64, v, rfl, su, g6⟩ | ⟨h64, _⟩⟩
    · have G6 := Grew.trans (GW.alloc _ _) g6
      have SU := Lib.hid su
      have HQ := Lib.hid hq
      obtain ⟨va, vc, hv⟩ := su.shape
      subst hv
      clear g6 su hq
      generalize q.length = N at *
      go_wp2_with fail
      go_ret2
      exact ⟨q, _, HQ.out, (HV4.out q HQ.out).1, rfl, SU.out, G6⟩
    · exact absurd h64 (HV4.out q hq).2
end Td
end Go.Proofs.YtpiajdahmcelnaaGreat
