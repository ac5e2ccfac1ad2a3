/-
  The laws of layer 13: their helpers, and the examples.
-/
import Derived.Deep.CutRange
import Derived.Test.YtpiajdahmcelnaaGreatMTdEx
import Derived.Test.YtpiajdahmcelnaaGreatMTdN
import Derived.Test.YtpiajdahmcelnaaGreatMHullSame
namespace Go.Proofs.YtpiajdahmcelnaaGreat
open Go.RowKit Hl
namespace Td
set_option maxRecDepth 100000
theorem lat_c (x y : Int) (w : World) : Calls Tryz.prog 16 #[.int .i64 x, .int .i64 y] w fun e w' => e = .returned (.agg #[.int .i64 x, .int .i64 y]) ∧ Grew w w' := by
  go_enter Tryz.func16, Tryz.ntmps16
  go_wp2_with fail
  refine bodyPost_ret (v := .agg #[.int .i64 x, .int .i64 y]) (by simp [results, Tryz.results16, go_sem, *]) rfl ⟨rfl, (by (repeat' (first | (with_reducible exact Grew.refl _) | (with_reducible assumption) | (with_reducible refine Grew.alloc ?_ _ _) | (with_reducible refine Grew.drew ?_) | (with_reducible refine Grew.drewN ?_ _) | (with_reducible refine Grew.setCell ?_ ?_ _) | go_size)))⟩
theorem Blk.put9 {W : World} {B : Nat} {t : TypeId} {a0 a1 a2 a3 a4 a5 a6 a7 a8 v0 v1 v2 v3 v4 v5 v6 v7 v8 : Value} (h : Blk W B #[a0, a1, a2, a3, a4, a5, a6, a7, a8] t) :
    Blk (((((((((W.setCell ⟨B, 0, none⟩ v0).setCell ⟨B, 1, none⟩ v1).setCell ⟨B, 2, none⟩ v2).setCell ⟨B, 3, none⟩ v3).setCell ⟨B, 4, none⟩ v4).setCell ⟨B, 5, none⟩ v5).setCell ⟨B, 6, none⟩ v6).setCell ⟨B, 7, none⟩ v7).setCell ⟨B, 8, none⟩ v8) B #[v0, v1, v2, v3, v4, v5, v6, v7, v8] t := by
  have h9 := Blk.set (o := 8) v8 (Blk.set (o := 7) v7 (Blk.set (o := 6) v6 (Blk.set (o := 5) v5 (Blk.set (o := 4) v4 (Blk.set (o := 3) v3 (Blk.set (o := 2) v2 (Blk.set (o := 1) v1 (Blk.set (o := 0) v0 h))))))))
  simp only [List.setIfInBounds_toArray, List.set_cons_zero, List.set_cons_succ] at h9
  exact h9
theorem Grew.put9 {W w : World} (h : Grew W w) {B : Nat} {v0 v1 v2 v3 v4 v5 v6 v7 v8 : Value} (hB : W.heap.size ≤ B) :
    Grew W (((((((((w.setCell ⟨B, 0, none⟩ v0).setCell ⟨B, 1, none⟩ v1).setCell ⟨B, 2, none⟩ v2).setCell ⟨B, 3, none⟩ v3).setCell ⟨B, 4, none⟩ v4).setCell ⟨B, 5, none⟩ v5).setCell ⟨B, 6, none⟩ v6).setCell ⟨B, 7, none⟩ v7).setCell ⟨B, 8, none⟩ v8) :=
  Grew.setCell (Grew.setCell (Grew.setCell (Grew.setCell (Grew.setCell (Grew.setCell (Grew.setCell (Grew.setCell (Grew.setCell h hB _) hB _) hB _) hB _) hB _) hB _) hB _) hB _) hB _
set_option maxHeartbeats 4000000 in
theorem example_c (w : World) : Calls Tryz.prog 15 #[] w fun e w' => ∃ b0, e = .returned (.agg #[.int .i64 1, .int .i64 7200, .int .i64 2, .int .i64 0, .int .i64 0, .int .i64 0, .int .i64 (-100), .int .i64 100, .int .i64 (-100), .int .i64 100, .int .i64 0, .int .i64 0, .slice (some ⟨b0, 0, none⟩) 1 1]) ∧ Rs w' (.slice (some ⟨b0, 0, none⟩) 1 1) [exf] ∧ Grew w w' := by
  have RN : Hid (∀ (W : World) (n : Nat), W.heap.size = n → Rs (W.alloc (.cells #[.int .i64 0, .int .i64 0, .int .i64 0, .int .i64 200, .int .i64 300, .int .i64 0, .int .i64 0, .int .i64 50, .int .i64 60] 25)) (.slice (some ⟨n, 0, none⟩) 1 1) [exf]) := Lib.hid (fun W n h => by subst h; exact rs_new W [exf] (by decide))
  go_enter Tryz.func15, Tryz.ntmps15
  go_wp2_with fail
  refine bodyPost_ret (v := .agg #[.int .i64 1, .int .i64 7200, .int .i64 2, .int .i64 0, .int .i64 0, .int .i64 0, .int .i64 (-100), .int .i64 100, .int .i64 (-100), .int .i64 100, .int .i64 0, .int .i64 0, .slice (some ⟨w.heap.size + 1 + 1, 0, none⟩) 1 1]) (by simp [results, Tryz.results15, go_sem, *]) rfl ⟨_, rfl, RN.out _ _ (by simp), (by (repeat' (first | (with_reducible exact Grew.refl _) | (with_reducible assumption) | (with_reducible refine Grew.alloc ?_ _ _) | (with_reducible refine Grew.drew ?_) | (with_reducible refine Grew.drewN ?_ _) | (with_reducible refine Grew.setCell ?_ ?_ _) | go_size)))⟩
set_option maxHeartbeats 16000000 in
theorem head_true (K : Hl.Code) (w : World) : Calls Tryz.prog 4 #[] w fun e w' => e = .returned (.bool true) ∧ Grew w w' := by
  have AT := Lib.hid lat_c
  go_enter Tryz.func4, Tryz.ntmps4
  go_wp2_with fail
  refine (example_c _).mono ?_
  rintro e w1 ⟨b0, rfl, hs, g1⟩
  obtain ⟨wt, hwt⟩ : ∃ wt, w1.alloc (.cells #[.int .i64 1, .int .i64 7200, .int .i64 2, .int .i64 0, .int .i64 0, .int .i64 0, .int .i64 (-100), .int .i64 100, .int .i64 (-100), .int .i64 100, .int .i64 0, .int .i64 0, .slice (some ⟨b0, 0, none⟩) 1 1] 28) = wt := ⟨_, rfl⟩
  have HB : Hid (Blk wt w1.heap.size #[.int .i64 1, .int .i64 7200, .int .i64 2, .int .i64 0, .int .i64 0, .int .i64 0, .int .i64 (-100), .int .i64 100, .int .i64 (-100), .int .i64 100, .int .i64 0, .int .i64 0, .slice (some ⟨b0, 0, none⟩) 1 1] 28) := Lib.hid (by rw [← hwt]; exact Blk.new _ _ _)
  have HS : Hid (Rs wt (.slice (some ⟨b0, 0, none⟩) 1 1) [exf]) := Lib.hid (by rw [← hwt]; exact hs.grew ((Grew.refl _).alloc _ _))
  have GT : Hid (Grew w wt) := Lib.hid (by rw [← hwt]; exact g1.alloc _ _)
  have D1 : Hid (∀ W, Grew wt W → Calls Tryz.prog 12 #[.agg #[.int .i64 1, .int .i64 7200, .int .i64 2, .int .i64 0, .int .i64 0, .int .i64 0, .int .i64 (-100), .int .i64 100, .int .i64 (-100), .int .i64 100, .int .i64 0, .int .i64 0, .slice (some ⟨b0, 0, none⟩) 1 1], .agg #[.int .i64 5, .int .i64 5], .agg #[.int .i64 9999, .int .i64 9], .int .i64 7200, .int .i64 7300] W fun e w' => ∃ va vc, e = .returned (.tuple #[.slice va 2 vc, .int .i64 0]) ∧ Hid (Sl w' (.slice va 2 vc) [(200, 0), (300, 0)]) ∧ Grew W w') := Lib.hid (fun W g => by
    have h := drift_yes K ex (.slice (some ⟨b0, 0, none⟩) 1 1) (5, 5) (9999, 9) 7200 7300 W (HS.out.grew g) (show ex.l.length ≤ 9223372036854775807 by decide) ex_b1 (by decide) (by rw [ex_o1]; exact ex_plcs)
    refine h.mono ?_
    rintro e w' ⟨q, v, hq, _, rfl, su, gg⟩
    rw [ex_o1] at hq
    have e := ex_hull hq
    subst e
    obtain ⟨va, vc, rfl⟩ := su.shape
    exact ⟨va, vc, rfl, Lib.hid su, gg⟩)
  have B2 : Hid (∀ W, Grew wt W → Calls Tryz.prog 10 #[.agg #[.int .i64 1, .int .i64 7200, .int .i64 2, .int .i64 0, .int .i64 0, .int .i64 0, .int .i64 (-100), .int .i64 100, .int .i64 (-100), .int .i64 100, .int .i64 0, .int .i64 0, .slice (some ⟨b0, 0, none⟩) 1 1], .agg #[.int .i64 (-1), .int .i64 5], .agg #[.int .i64 3, .int .i64 9], .int .i64 7200, .int .i64 10799] W fun e w' => e = .returned (.tuple #[.agg #[.int .i64 0, .int .i64 0, .int .i64 0, .int .i64 (-100), .int .i64 300, .int .i64 (-100), .int .i64 100, .int .i64 0, .int .i64 60], .int .i64 0]) ∧ Grew W w') := Lib.hid (fun W g => by
    have h := bound_c K ex (.slice (some ⟨b0, 0, none⟩) 1 1) (-1, 5) (3, 9) (7200) 10799 W (HS.out.grew g) (show ex.l.length ≤ 9223372036854775807 by decide)
    rw [bA_yes ex_b2, ex_o2] at h
    exact h)
  have A3 : Hid (∀ W, Grew wt W → Calls Tryz.prog 6 #[.agg #[.int .i64 1, .int .i64 7200, .int .i64 2, .int .i64 0, .int .i64 0, .int .i64 0, .int .i64 (-100), .int .i64 100, .int .i64 (-100), .int .i64 100, .int .i64 0, .int .i64 0, .slice (some ⟨b0, 0, none⟩) 1 1], .agg #[.int .i64 5, .int .i64 5], .int .i64 10800] W fun e w' => e = .returned (.tuple #[.agg #[.int .i64 0, .int .i64 0, .int .i64 0, .int .i64 (-100), .int .i64 100, .int .i64 (-100), .int .i64 100, .int .i64 0, .int .i64 0], .int .i64 0]) ∧ Grew W w') := Lib.hid (fun W g => by
    have h := at_c K ex (.slice (some ⟨b0, 0, none⟩) 1 1) (5, 5) 10800 W (HS.out.grew g) (show ex.l.length ≤ 9223372036854775807 by decide)
    rw [bA_yes ex_b3, ex_o3] at h
    exact h)
  have A4 : Hid (∀ W, Grew wt W → Calls Tryz.prog 6 #[.agg #[.int .i64 1, .int .i64 7200, .int .i64 2, .int .i64 0, .int .i64 0, .int .i64 0, .int .i64 (-100), .int .i64 100, .int .i64 (-100), .int .i64 100, .int .i64 0, .int .i64 0, .slice (some ⟨b0, 0, none⟩) 1 1], .agg #[.int .i64 5, .int .i64 5], .int .i64 10799] W fun e w' => e = .returned (.tuple #[.agg #[.int .i64 0, .int .i64 0, .int .i64 0, .int .i64 200, .int .i64 300, .int .i64 0, .int .i64 0, .int .i64 50, .int .i64 60], .int .i64 0]) ∧ Grew W w') := Lib.hid (fun W g => by
    have h := at_c K ex (.slice (some ⟨b0, 0, none⟩) 1 1) (5, 5) 10799 W (HS.out.grew g) (show ex.l.length ≤ 9223372036854775807 by decide)
    rw [bA_yes ex_b4, ex_o4] at h
    exact h)
  have B5 : Hid (∀ W, Grew wt W → Calls Tryz.prog 10 #[.agg #[.int .i64 1, .int .i64 7200, .int .i64 2, .int .i64 0, .int .i64 0, .int .i64 0, .int .i64 (-100), .int .i64 100, .int .i64 (-100), .int .i64 100, .int .i64 0, .int .i64 0, .slice (some ⟨b0, 0, none⟩) 1 1], .agg #[.int .i64 2, .int .i64 0], .agg #[.int .i64 1, .int .i64 0], .int .i64 0, .int .i64 1] W fun e w' => e = .returned (.tuple #[.agg #[.int .i64 0, .int .i64 0, .int .i64 0, .int .i64 0, .int .i64 0, .int .i64 0, .int .i64 0, .int .i64 0, .int .i64 0], .int .i64 1]) ∧ Grew W w') := Lib.hid (fun W g => by
    have h := bound_c K ex (.slice (some ⟨b0, 0, none⟩) 1 1) (2, 0) (1, 0) (0) 1 W (HS.out.grew g) (show ex.l.length ≤ 9223372036854775807 by decide)
    rw [bA_no ex_b5] at h
    exact h)
  have D6 : Hid (∀ W, Grew wt W → Calls Tryz.prog 12 #[.agg #[.int .i64 1, .int .i64 7200, .int .i64 2, .int .i64 0, .int .i64 0, .int .i64 0, .int .i64 (-100), .int .i64 100, .int .i64 (-100), .int .i64 100, .int .i64 0, .int .i64 0, .slice (some ⟨b0, 0, none⟩) 1 1], .agg #[.int .i64 0, .int .i64 0], .agg #[.int .i64 0, .int .i64 0], .int .i64 0, .int .i64 100001] W fun e w' => e = .returned (.tuple #[.slice none 0 0, .int .i64 1]) ∧ Grew W w') := Lib.hid (fun W g => by
    exact drift_far K ex (.slice (some ⟨b0, 0, none⟩) 1 1) (0, 0) (0, 0) 0 100001 W (HS.out.grew g) (show ex.l.length ≤ 9223372036854775807 by decide) ex_b6 (by decide))
  have V7 : Hid (∀ W, Grew wt W → Calls Tryz.prog 8 #[.agg #[.int .i64 1, .int .i64 7200, .int .i64 2, .int .i64 0, .int .i64 0, .int .i64 0, .int .i64 (-100), .int .i64 100, .int .i64 (-100), .int .i64 100, .int .i64 0, .int .i64 0, .slice (some ⟨b0, 0, none⟩) 1 1]] W fun e w' => e = .returned (.bool true) ∧ Grew W w') := Lib.hid (fun W g => by
    have h := valid_c ex (.slice (some ⟨b0, 0, none⟩) 1 1) W (HS.out.grew g) (show ex.l.length ≤ 9223372036854775807 by decide)
    rw [decide_eq_true ex_tok] at h
    exact h)
  have V8 : Hid (∀ W, Grew wt W → Calls Tryz.prog 8 #[.agg #[.int .i64 0, .int .i64 0, .int .i64 0, .int .i64 0, .int .i64 0, .int .i64 0, .int .i64 0, .int .i64 0, .int .i64 0, .int .i64 0, .int .i64 0, .int .i64 0, .slice none 0 0]] W fun e w' => e = .returned (.bool false) ∧ Grew W w') := Lib.hid (fun W g => by
    have h := valid_c ⟨0, 0, 0, f0, []⟩ (.slice none 0 0) W (Rs.nil W none 0) (by decide)
    rw [decide_eq_false zero_tok] at h
    exact h)
  clear hs g1 K
  go_wp2_with fail
  try rw [hwt]
  clear hwt
  have GP := Lib.hid (Grew.refl wt)
  have KS : Hid (∀ W, Grew wt W → (W.cell? ⟨w1.heap.size, 0, none⟩ = some (.int .i64 1) ∧ W.cell? ⟨w1.heap.size, 1, none⟩ = some (.int .i64 7200) ∧ W.cell? ⟨w1.heap.size, 2, none⟩ = some (.int .i64 2) ∧ W.cell? ⟨w1.heap.size, 3, none⟩ = some (.int .i64 0) ∧ W.cell? ⟨w1.heap.size, 4, none⟩ = some (.int .i64 0) ∧ W.cell? ⟨w1.heap.size, 5, none⟩ = some (.int .i64 0) ∧ W.cell? ⟨w1.heap.size, 6, none⟩ = some (.int .i64 (-100)) ∧ W.cell? ⟨w1.heap.size, 7, none⟩ = some (.int .i64 100) ∧ W.cell? ⟨w1.heap.size, 8, none⟩ = some (.int .i64 (-100)) ∧ W.cell? ⟨w1.heap.size, 9, none⟩ = some (.int .i64 100) ∧ W.cell? ⟨w1.heap.size, 10, none⟩ = some (.int .i64 0) ∧ W.cell? ⟨w1.heap.size, 11, none⟩ = some (.int .i64 0) ∧ W.cell? ⟨w1.heap.size, 12, none⟩ = some (.slice (some ⟨b0, 0, none⟩) 1 1))) := Lib.hid (fun W g => by
    have hb := HB.out.grown (GP.out.trans g)
    exact ⟨blkAt hb rfl, blkAt hb rfl, blkAt hb rfl, blkAt hb rfl, blkAt hb rfl, blkAt hb rfl, blkAt hb rfl, blkAt hb rfl, blkAt hb rfl, blkAt hb rfl, blkAt hb rfl, blkAt hb rfl, blkAt hb rfl⟩)
  have GA := Grew.refl wt
  go_cut [2, 3] from 16 to 22 (fun s2 s3 wx => ∃ va vc, s2 = .slice va 2 vc ∧ s3 = .int .i64 0 ∧ Hid (Sl wx (.slice va 2 vc) [(200, 0), (300, 0)]) ∧ Grew wt wx)
  case first =>
    go_region_held3 (fun W => W.cell? ⟨w1.heap.size, 0, none⟩ = some (.int .i64 1) ∧ W.cell? ⟨w1.heap.size, 1, none⟩ = some (.int .i64 7200) ∧ W.cell? ⟨w1.heap.size, 2, none⟩ = some (.int .i64 2) ∧ W.cell? ⟨w1.heap.size, 3, none⟩ = some (.int .i64 0) ∧ W.cell? ⟨w1.heap.size, 4, none⟩ = some (.int .i64 0) ∧ W.cell? ⟨w1.heap.size, 5, none⟩ = some (.int .i64 0) ∧ W.cell? ⟨w1.heap.size, 6, none⟩ = some (.int .i64 (-100)) ∧ W.cell? ⟨w1.heap.size, 7, none⟩ = some (.int .i64 100) ∧ W.cell? ⟨w1.heap.size, 8, none⟩ = some (.int .i64 (-100)) ∧ W.cell? ⟨w1.heap.size, 9, none⟩ = some (.int .i64 100) ∧ W.cell? ⟨w1.heap.size, 10, none⟩ = some (.int .i64 0) ∧ W.cell? ⟨w1.heap.size, 11, none⟩ = some (.int .i64 0) ∧ W.cell? ⟨w1.heap.size, 12, none⟩ = some (.slice (some ⟨b0, 0, none⟩) 1 1)) (exact KS.out _ (by (repeat' (first | (with_reducible exact Grew.refl _) | (with_reducible assumption) | (with_reducible refine Grew.alloc ?_ _ _) | (with_reducible refine Grew.drew ?_) | (with_reducible refine Grew.drewN ?_ _) | (with_reducible refine Grew.setCell ?_ ?_ _) | go_size))))
      (first
        | (go_at_call 16; refine (AT.out _ _ _).mono ?_; rintro e w4 ⟨rfl, gn⟩; (first | (have BK := Lib.hid ((Blk.new _ _ _).grown gn)) | (have BK := Lib.hid ((Blk.drew (Blk.new _ _ _)).grown gn)) | (have BK := Lib.hid (BK.out.grown gn)) | skip); (try rw [World.size_drew] at BK); have GA : Grew wt w4 := Grew.trans (by (repeat' (first | (with_reducible exact Grew.refl _) | (with_reducible assumption) | (with_reducible refine Grew.alloc ?_ _ _) | (with_reducible refine Grew.drew ?_) | (with_reducible refine Grew.drewN ?_ _) | (with_reducible refine Grew.setCell ?_ ?_ _) | go_size))) gn; have zq := GA.size; clear gn)
        | (go_at_call 12; refine (D1.out _ (GP.out.trans (by (repeat' (first | (with_reducible exact Grew.refl _) | (with_reducible assumption) | (with_reducible refine Grew.alloc ?_ _ _) | (with_reducible refine Grew.drew ?_) | (with_reducible refine Grew.drewN ?_ _) | (with_reducible refine Grew.setCell ?_ ?_ _) | go_size))))).mono ?_; rintro e w6 ⟨va, vc, rfl, SU, gn⟩; (first | (have BK := Lib.hid ((Blk.new _ _ _).grown gn)) | (have BK := Lib.hid ((Blk.drew (Blk.new _ _ _)).grown gn)) | (have BK := Lib.hid (BK.out.grown gn)) | skip); (try rw [World.size_drew] at BK); have GA : Grew wt w6 := Grew.trans (by (repeat' (first | (with_reducible exact Grew.refl _) | (with_reducible assumption) | (with_reducible refine Grew.alloc ?_ _ _) | (with_reducible refine Grew.drew ?_) | (with_reducible refine Grew.drewN ?_ _) | (with_reducible refine Grew.setCell ?_ ?_ _) | go_size))) gn; have zq := GA.size; (try (have yl := BK.out.lt)); (try ((have y0 := blkAt BK.out (i := 0) (v := .int .i64 0) rfl); (have z0 := blkFz BK.out (i := 0) (by simp)); (have y1 := blkAt BK.out (i := 1) (v := .int .i64 0) rfl); (have z1 := blkFz BK.out (i := 1) (by simp)); (have y2 := blkAt BK.out (i := 2) (v := .int .i64 0) rfl); (have z2 := blkFz BK.out (i := 2) (by simp)); (have y3 := blkAt BK.out (i := 3) (v := .int .i64 0) rfl); (have z3 := blkFz BK.out (i := 3) (by simp)); (have y4 := blkAt BK.out (i := 4) (v := .int .i64 0) rfl); (have z4 := blkFz BK.out (i := 4) (by simp)); (have y5 := blkAt BK.out (i := 5) (v := .int .i64 0) rfl); (have z5 := blkFz BK.out (i := 5) (by simp)); (have y6 := blkAt BK.out (i := 6) (v := .int .i64 0) rfl); (have z6 := blkFz BK.out (i := 6) (by simp)); (have y7 := blkAt BK.out (i := 7) (v := .int .i64 0) rfl); (have z7 := blkFz BK.out (i := 7) (by simp)); (have y8 := blkAt BK.out (i := 8) (v := .int .i64 0) rfl); (have z8 := blkFz BK.out (i := 8) (by simp)))); clear gn))
    all_goals (go_wp2_with fail; go_meet)
    all_goals first
      | exact ⟨_, _, rfl, rfl, SU, (by (repeat' (first | (with_reducible exact Grew.refl _) | (with_reducible assumption) | (with_reducible refine Grew.alloc ?_ _ _) | (with_reducible refine Grew.drew ?_) | (with_reducible refine Grew.drewN ?_ _) | (with_reducible refine Grew.setCell ?_ ?_ _) | go_size)))⟩
  case rest =>
    clear KS GA
    obtain ⟨va, vc, rfl, rfl, SU, GN⟩ := hcut
    rename World => wa
    have GP := Lib.hid (GP.out.trans GN)
    clear GN
    go_wp2_with fail
    have KS : Hid (∀ W, Grew wa W → (W.cell? ⟨w1.heap.size, 0, none⟩ = some (.int .i64 1) ∧ W.cell? ⟨w1.heap.size, 1, none⟩ = some (.int .i64 7200) ∧ W.cell? ⟨w1.heap.size, 2, none⟩ = some (.int .i64 2) ∧ W.cell? ⟨w1.heap.size, 3, none⟩ = some (.int .i64 0) ∧ W.cell? ⟨w1.heap.size, 4, none⟩ = some (.int .i64 0) ∧ W.cell? ⟨w1.heap.size, 5, none⟩ = some (.int .i64 0) ∧ W.cell? ⟨w1.heap.size, 6, none⟩ = some (.int .i64 (-100)) ∧ W.cell? ⟨w1.heap.size, 7, none⟩ = some (.int .i64 100) ∧ W.cell? ⟨w1.heap.size, 8, none⟩ = some (.int .i64 (-100)) ∧ W.cell? ⟨w1.heap.size, 9, none⟩ = some (.int .i64 100) ∧ W.cell? ⟨w1.heap.size, 10, none⟩ = some (.int .i64 0) ∧ W.cell? ⟨w1.heap.size, 11, none⟩ = some (.int .i64 0) ∧ W.cell? ⟨w1.heap.size, 12, none⟩ = some (.slice (some ⟨b0, 0, none⟩) 1 1))) := Lib.hid (fun W g => by
      have hb := HB.out.grown (GP.out.trans g)
      exact ⟨blkAt hb rfl, blkAt hb rfl, blkAt hb rfl, blkAt hb rfl, blkAt hb rfl, blkAt hb rfl, blkAt hb rfl, blkAt hb rfl, blkAt hb rfl, blkAt hb rfl, blkAt hb rfl, blkAt hb rfl, blkAt hb rfl⟩)
    have GA := Grew.refl wa
    go_cut [4, 5] from 23 to 29 (fun s4 s5 wx => ∃ B, s4 = .pointer (some ⟨B, 0, none⟩) ∧ s5 = .int .i64 0 ∧ Hid (Blk wx B #[.int .i64 0, .int .i64 0, .int .i64 0, .int .i64 (-100), .int .i64 300, .int .i64 (-100), .int .i64 100, .int .i64 0, .int .i64 60] 25) ∧ Grew wa wx)
    case first =>
      go_region_held3 (fun W => W.cell? ⟨w1.heap.size, 0, none⟩ = some (.int .i64 1) ∧ W.cell? ⟨w1.heap.size, 1, none⟩ = some (.int .i64 7200) ∧ W.cell? ⟨w1.heap.size, 2, none⟩ = some (.int .i64 2) ∧ W.cell? ⟨w1.heap.size, 3, none⟩ = some (.int .i64 0) ∧ W.cell? ⟨w1.heap.size, 4, none⟩ = some (.int .i64 0) ∧ W.cell? ⟨w1.heap.size, 5, none⟩ = some (.int .i64 0) ∧ W.cell? ⟨w1.heap.size, 6, none⟩ = some (.int .i64 (-100)) ∧ W.cell? ⟨w1.heap.size, 7, none⟩ = some (.int .i64 100) ∧ W.cell? ⟨w1.heap.size, 8, none⟩ = some (.int .i64 (-100)) ∧ W.cell? ⟨w1.heap.size, 9, none⟩ = some (.int .i64 100) ∧ W.cell? ⟨w1.heap.size, 10, none⟩ = some (.int .i64 0) ∧ W.cell? ⟨w1.heap.size, 11, none⟩ = some (.int .i64 0) ∧ W.cell? ⟨w1.heap.size, 12, none⟩ = some (.slice (some ⟨b0, 0, none⟩) 1 1)) (exact KS.out _ (by (repeat' (first | (with_reducible exact Grew.refl _) | (with_reducible assumption) | (with_reducible refine Grew.alloc ?_ _ _) | (with_reducible refine Grew.drew ?_) | (with_reducible refine Grew.drewN ?_ _) | (with_reducible refine Grew.setCell ?_ ?_ _) | go_size))))
        (first
          | (go_at_call 16; refine (AT.out _ _ _).mono ?_; rintro e w4 ⟨rfl, gn⟩; (first | (have BK := Lib.hid ((Blk.new _ _ _).grown gn)) | (have BK := Lib.hid ((Blk.drew (Blk.new _ _ _)).grown gn)) | (have BK := Lib.hid (BK.out.grown gn)) | skip); (try rw [World.size_drew] at BK); have GA : Grew wa w4 := Grew.trans (by (repeat' (first | (with_reducible exact Grew.refl _) | (with_reducible assumption) | (with_reducible refine Grew.alloc ?_ _ _) | (with_reducible refine Grew.drew ?_) | (with_reducible refine Grew.drewN ?_ _) | (with_reducible refine Grew.setCell ?_ ?_ _) | go_size))) gn; have zq := GA.size; clear gn)
          | (go_at_call 10; refine (B2.out _ (GP.out.trans (by (repeat' (first | (with_reducible exact Grew.refl _) | (with_reducible assumption) | (with_reducible refine Grew.alloc ?_ _ _) | (with_reducible refine Grew.drew ?_) | (with_reducible refine Grew.drewN ?_ _) | (with_reducible refine Grew.setCell ?_ ?_ _) | go_size))))).mono ?_; rintro e w6 ⟨rfl, gn⟩; (first | (have BK := Lib.hid ((Blk.new _ _ _).grown gn)) | (have BK := Lib.hid ((Blk.drew (Blk.new _ _ _)).grown gn)) | (have BK := Lib.hid (BK.out.grown gn)) | skip); (try rw [World.size_drew] at BK); have GA : Grew wa w6 := Grew.trans (by (repeat' (first | (with_reducible exact Grew.refl _) | (with_reducible assumption) | (with_reducible refine Grew.alloc ?_ _ _) | (with_reducible refine Grew.drew ?_) | (with_reducible refine Grew.drewN ?_ _) | (with_reducible refine Grew.setCell ?_ ?_ _) | go_size))) gn; have zq := GA.size; (try (have yl := BK.out.lt)); (try ((have y0 := blkAt BK.out (i := 0) (v := .int .i64 0) rfl); (have z0 := blkFz BK.out (i := 0) (by simp)); (have y1 := blkAt BK.out (i := 1) (v := .int .i64 0) rfl); (have z1 := blkFz BK.out (i := 1) (by simp)); (have y2 := blkAt BK.out (i := 2) (v := .int .i64 0) rfl); (have z2 := blkFz BK.out (i := 2) (by simp)); (have y3 := blkAt BK.out (i := 3) (v := .int .i64 0) rfl); (have z3 := blkFz BK.out (i := 3) (by simp)); (have y4 := blkAt BK.out (i := 4) (v := .int .i64 0) rfl); (have z4 := blkFz BK.out (i := 4) (by simp)); (have y5 := blkAt BK.out (i := 5) (v := .int .i64 0) rfl); (have z5 := blkFz BK.out (i := 5) (by simp)); (have y6 := blkAt BK.out (i := 6) (v := .int .i64 0) rfl); (have z6 := blkFz BK.out (i := 6) (by simp)); (have y7 := blkAt BK.out (i := 7) (v := .int .i64 0) rfl); (have z7 := blkFz BK.out (i := 7) (by simp)); (have y8 := blkAt BK.out (i := 8) (v := .int .i64 0) rfl); (have z8 := blkFz BK.out (i := 8) (by simp)))); clear gn))
      all_goals (go_wp2_with fail; go_meet)
      all_goals first
        | (have _ := BK.out; exact ⟨_, rfl, rfl, Lib.hid (Blk.put9 BK.out), Grew.put9 GA (by omega)⟩)
        | exact ⟨_, rfl, rfl, Lib.hid (Blk.new _ _ _), Grew.alloc GA _ _⟩
    case rest =>
      clear KS GA
      obtain ⟨B4, rfl, rfl, H4, GN⟩ := hcut
      rename World => wb
      have SU := Lib.hid (SU.out.grown GN)
      have GP := Lib.hid (GP.out.trans GN)
      clear GN
      go_wp2_with fail
      have KS : Hid (∀ W, Grew wb W → (W.cell? ⟨w1.heap.size, 0, none⟩ = some (.int .i64 1) ∧ W.cell? ⟨w1.heap.size, 1, none⟩ = some (.int .i64 7200) ∧ W.cell? ⟨w1.heap.size, 2, none⟩ = some (.int .i64 2) ∧ W.cell? ⟨w1.heap.size, 3, none⟩ = some (.int .i64 0) ∧ W.cell? ⟨w1.heap.size, 4, none⟩ = some (.int .i64 0) ∧ W.cell? ⟨w1.heap.size, 5, none⟩ = some (.int .i64 0) ∧ W.cell? ⟨w1.heap.size, 6, none⟩ = some (.int .i64 (-100)) ∧ W.cell? ⟨w1.heap.size, 7, none⟩ = some (.int .i64 100) ∧ W.cell? ⟨w1.heap.size, 8, none⟩ = some (.int .i64 (-100)) ∧ W.cell? ⟨w1.heap.size, 9, none⟩ = some (.int .i64 100) ∧ W.cell? ⟨w1.heap.size, 10, none⟩ = some (.int .i64 0) ∧ W.cell? ⟨w1.heap.size, 11, none⟩ = some (.int .i64 0) ∧ W.cell? ⟨w1.heap.size, 12, none⟩ = some (.slice (some ⟨b0, 0, none⟩) 1 1))) := Lib.hid (fun W g => by
        have hb := HB.out.grown (GP.out.trans g)
        exact ⟨blkAt hb rfl, blkAt hb rfl, blkAt hb rfl, blkAt hb rfl, blkAt hb rfl, blkAt hb rfl, blkAt hb rfl, blkAt hb rfl, blkAt hb rfl, blkAt hb rfl, blkAt hb rfl, blkAt hb rfl, blkAt hb rfl⟩)
      have GA := Grew.refl wb
      go_cut [6, 7] from 30 to 35 (fun s6 s7 wx => ∃ B, s6 = .pointer (some ⟨B, 0, none⟩) ∧ s7 = .int .i64 0 ∧ Hid (Blk wx B #[.int .i64 0, .int .i64 0, .int .i64 0, .int .i64 (-100), .int .i64 100, .int .i64 (-100), .int .i64 100, .int .i64 0, .int .i64 0] 25) ∧ Grew wb wx)
      case first =>
        go_region_held3 (fun W => W.cell? ⟨w1.heap.size, 0, none⟩ = some (.int .i64 1) ∧ W.cell? ⟨w1.heap.size, 1, none⟩ = some (.int .i64 7200) ∧ W.cell? ⟨w1.heap.size, 2, none⟩ = some (.int .i64 2) ∧ W.cell? ⟨w1.heap.size, 3, none⟩ = some (.int .i64 0) ∧ W.cell? ⟨w1.heap.size, 4, none⟩ = some (.int .i64 0) ∧ W.cell? ⟨w1.heap.size, 5, none⟩ = some (.int .i64 0) ∧ W.cell? ⟨w1.heap.size, 6, none⟩ = some (.int .i64 (-100)) ∧ W.cell? ⟨w1.heap.size, 7, none⟩ = some (.int .i64 100) ∧ W.cell? ⟨w1.heap.size, 8, none⟩ = some (.int .i64 (-100)) ∧ W.cell? ⟨w1.heap.size, 9, none⟩ = some (.int .i64 100) ∧ W.cell? ⟨w1.heap.size, 10, none⟩ = some (.int .i64 0) ∧ W.cell? ⟨w1.heap.size, 11, none⟩ = some (.int .i64 0) ∧ W.cell? ⟨w1.heap.size, 12, none⟩ = some (.slice (some ⟨b0, 0, none⟩) 1 1)) (exact KS.out _ (by (repeat' (first | (with_reducible exact Grew.refl _) | (with_reducible assumption) | (with_reducible refine Grew.alloc ?_ _ _) | (with_reducible refine Grew.drew ?_) | (with_reducible refine Grew.drewN ?_ _) | (with_reducible refine Grew.setCell ?_ ?_ _) | go_size))))
          (first
            | (go_at_call 16; refine (AT.out _ _ _).mono ?_; rintro e w4 ⟨rfl, gn⟩; (first | (have BK := Lib.hid ((Blk.new _ _ _).grown gn)) | (have BK := Lib.hid ((Blk.drew (Blk.new _ _ _)).grown gn)) | (have BK := Lib.hid (BK.out.grown gn)) | skip); (try rw [World.size_drew] at BK); have GA : Grew wb w4 := Grew.trans (by (repeat' (first | (with_reducible exact Grew.refl _) | (with_reducible assumption) | (with_reducible refine Grew.alloc ?_ _ _) | (with_reducible refine Grew.drew ?_) | (with_reducible refine Grew.drewN ?_ _) | (with_reducible refine Grew.setCell ?_ ?_ _) | go_size))) gn; have zq := GA.size; clear gn)
            | (go_at_call 6; refine (A3.out _ (GP.out.trans (by (repeat' (first | (with_reducible exact Grew.refl _) | (with_reducible assumption) | (with_reducible refine Grew.alloc ?_ _ _) | (with_reducible refine Grew.drew ?_) | (with_reducible refine Grew.drewN ?_ _) | (with_reducible refine Grew.setCell ?_ ?_ _) | go_size))))).mono ?_; rintro e w6 ⟨rfl, gn⟩; (first | (have BK := Lib.hid ((Blk.new _ _ _).grown gn)) | (have BK := Lib.hid ((Blk.drew (Blk.new _ _ _)).grown gn)) | (have BK := Lib.hid (BK.out.grown gn)) | skip); (try rw [World.size_drew] at BK); have GA : Grew wb w6 := Grew.trans (by (repeat' (first | (with_reducible exact Grew.refl _) | (with_reducible assumption) | (with_reducible refine Grew.alloc ?_ _ _) | (with_reducible refine Grew.drew ?_) | (with_reducible refine Grew.drewN ?_ _) | (with_reducible refine Grew.setCell ?_ ?_ _) | go_size))) gn; have zq := GA.size; (try (have yl := BK.out.lt)); (try ((have y0 := blkAt BK.out (i := 0) (v := .int .i64 0) rfl); (have z0 := blkFz BK.out (i := 0) (by simp)); (have y1 := blkAt BK.out (i := 1) (v := .int .i64 0) rfl); (have z1 := blkFz BK.out (i := 1) (by simp)); (have y2 := blkAt BK.out (i := 2) (v := .int .i64 0) rfl); (have z2 := blkFz BK.out (i := 2) (by simp)); (have y3 := blkAt BK.out (i := 3) (v := .int .i64 0) rfl); (have z3 := blkFz BK.out (i := 3) (by simp)); (have y4 := blkAt BK.out (i := 4) (v := .int .i64 0) rfl); (have z4 := blkFz BK.out (i := 4) (by simp)); (have y5 := blkAt BK.out (i := 5) (v := .int .i64 0) rfl); (have z5 := blkFz BK.out (i := 5) (by simp)); (have y6 := blkAt BK.out (i := 6) (v := .int .i64 0) rfl); (have z6 := blkFz BK.out (i := 6) (by simp)); (have y7 := blkAt BK.out (i := 7) (v := .int .i64 0) rfl); (have z7 := blkFz BK.out (i := 7) (by simp)); (have y8 := blkAt BK.out (i := 8) (v := .int .i64 0) rfl); (have z8 := blkFz BK.out (i := 8) (by simp)))); clear gn))
        all_goals (go_wp2_with fail; go_meet)
        all_goals first
          | (have _ := BK.out; exact ⟨_, rfl, rfl, Lib.hid (Blk.put9 BK.out), Grew.put9 GA (by omega)⟩)
          | exact ⟨_, rfl, rfl, Lib.hid (Blk.new _ _ _), Grew.alloc GA _ _⟩
      case rest =>
        clear KS GA
        obtain ⟨B6, rfl, rfl, H6, GN⟩ := hcut
        rename World => wd
        have SU := Lib.hid (SU.out.grown GN)
        have H4 := Lib.hid (H4.out.grown GN)
        have GP := Lib.hid (GP.out.trans GN)
        clear GN
        go_wp2_with fail
        have KS : Hid (∀ W, Grew wd W → (W.cell? ⟨w1.heap.size, 0, none⟩ = some (.int .i64 1) ∧ W.cell? ⟨w1.heap.size, 1, none⟩ = some (.int .i64 7200) ∧ W.cell? ⟨w1.heap.size, 2, none⟩ = some (.int .i64 2) ∧ W.cell? ⟨w1.heap.size, 3, none⟩ = some (.int .i64 0) ∧ W.cell? ⟨w1.heap.size, 4, none⟩ = some (.int .i64 0) ∧ W.cell? ⟨w1.heap.size, 5, none⟩ = some (.int .i64 0) ∧ W.cell? ⟨w1.heap.size, 6, none⟩ = some (.int .i64 (-100)) ∧ W.cell? ⟨w1.heap.size, 7, none⟩ = some (.int .i64 100) ∧ W.cell? ⟨w1.heap.size, 8, none⟩ = some (.int .i64 (-100)) ∧ W.cell? ⟨w1.heap.size, 9, none⟩ = some (.int .i64 100) ∧ W.cell? ⟨w1.heap.size, 10, none⟩ = some (.int .i64 0) ∧ W.cell? ⟨w1.heap.size, 11, none⟩ = some (.int .i64 0) ∧ W.cell? ⟨w1.heap.size, 12, none⟩ = some (.slice (some ⟨b0, 0, none⟩) 1 1))) := Lib.hid (fun W g => by
          have hb := HB.out.grown (GP.out.trans g)
          exact ⟨blkAt hb rfl, blkAt hb rfl, blkAt hb rfl, blkAt hb rfl, blkAt hb rfl, blkAt hb rfl, blkAt hb rfl, blkAt hb rfl, blkAt hb rfl, blkAt hb rfl, blkAt hb rfl, blkAt hb rfl, blkAt hb rfl⟩)
        have GA := Grew.refl wd
        go_cut [8, 9] from 36 to 41 (fun s8 s9 wx => ∃ B, s8 = .pointer (some ⟨B, 0, none⟩) ∧ s9 = .int .i64 0 ∧ Hid (Blk wx B #[.int .i64 0, .int .i64 0, .int .i64 0, .int .i64 200, .int .i64 300, .int .i64 0, .int .i64 0, .int .i64 50, .int .i64 60] 25) ∧ Grew wd wx)
        case first =>
          go_region_held3 (fun W => W.cell? ⟨w1.heap.size, 0, none⟩ = some (.int .i64 1) ∧ W.cell? ⟨w1.heap.size, 1, none⟩ = some (.int .i64 7200) ∧ W.cell? ⟨w1.heap.size, 2, none⟩ = some (.int .i64 2) ∧ W.cell? ⟨w1.heap.size, 3, none⟩ = some (.int .i64 0) ∧ W.cell? ⟨w1.heap.size, 4, none⟩ = some (.int .i64 0) ∧ W.cell? ⟨w1.heap.size, 5, none⟩ = some (.int .i64 0) ∧ W.cell? ⟨w1.heap.size, 6, none⟩ = some (.int .i64 (-100)) ∧ W.cell? ⟨w1.heap.size, 7, none⟩ = some (.int .i64 100) ∧ W.cell? ⟨w1.heap.size, 8, none⟩ = some (.int .i64 (-100)) ∧ W.cell? ⟨w1.heap.size, 9, none⟩ = some (.int .i64 100) ∧ W.cell? ⟨w1.heap.size, 10, none⟩ = some (.int .i64 0) ∧ W.cell? ⟨w1.heap.size, 11, none⟩ = some (.int .i64 0) ∧ W.cell? ⟨w1.heap.size, 12, none⟩ = some (.slice (some ⟨b0, 0, none⟩) 1 1)) (exact KS.out _ (by (repeat' (first | (with_reducible exact Grew.refl _) | (with_reducible assumption) | (with_reducible refine Grew.alloc ?_ _ _) | (with_reducible refine Grew.drew ?_) | (with_reducible refine Grew.drewN ?_ _) | (with_reducible refine Grew.setCell ?_ ?_ _) | go_size))))
            (first
              | (go_at_call 16; refine (AT.out _ _ _).mono ?_; rintro e w4 ⟨rfl, gn⟩; (first | (have BK := Lib.hid ((Blk.new _ _ _).grown gn)) | (have BK := Lib.hid ((Blk.drew (Blk.new _ _ _)).grown gn)) | (have BK := Lib.hid (BK.out.grown gn)) | skip); (try rw [World.size_drew] at BK); have GA : Grew wd w4 := Grew.trans (by (repeat' (first | (with_reducible exact Grew.refl _) | (with_reducible assumption) | (with_reducible refine Grew.alloc ?_ _ _) | (with_reducible refine Grew.drew ?_) | (with_reducible refine Grew.drewN ?_ _) | (with_reducible refine Grew.setCell ?_ ?_ _) | go_size))) gn; have zq := GA.size; clear gn)
              | (go_at_call 6; refine (A4.out _ (GP.out.trans (by (repeat' (first | (with_reducible exact Grew.refl _) | (with_reducible assumption) | (with_reducible refine Grew.alloc ?_ _ _) | (with_reducible refine Grew.drew ?_) | (with_reducible refine Grew.drewN ?_ _) | (with_reducible refine Grew.setCell ?_ ?_ _) | go_size))))).mono ?_; rintro e w6 ⟨rfl, gn⟩; (first | (have BK := Lib.hid ((Blk.new _ _ _).grown gn)) | (have BK := Lib.hid ((Blk.drew (Blk.new _ _ _)).grown gn)) | (have BK := Lib.hid (BK.out.grown gn)) | skip); (try rw [World.size_drew] at BK); have GA : Grew wd w6 := Grew.trans (by (repeat' (first | (with_reducible exact Grew.refl _) | (with_reducible assumption) | (with_reducible refine Grew.alloc ?_ _ _) | (with_reducible refine Grew.drew ?_) | (with_reducible refine Grew.drewN ?_ _) | (with_reducible refine Grew.setCell ?_ ?_ _) | go_size))) gn; have zq := GA.size; (try (have yl := BK.out.lt)); (try ((have y0 := blkAt BK.out (i := 0) (v := .int .i64 0) rfl); (have z0 := blkFz BK.out (i := 0) (by simp)); (have y1 := blkAt BK.out (i := 1) (v := .int .i64 0) rfl); (have z1 := blkFz BK.out (i := 1) (by simp)); (have y2 := blkAt BK.out (i := 2) (v := .int .i64 0) rfl); (have z2 := blkFz BK.out (i := 2) (by simp)); (have y3 := blkAt BK.out (i := 3) (v := .int .i64 0) rfl); (have z3 := blkFz BK.out (i := 3) (by simp)); (have y4 := blkAt BK.out (i := 4) (v := .int .i64 0) rfl); (have z4 := blkFz BK.out (i := 4) (by simp)); (have y5 := blkAt BK.out (i := 5) (v := .int .i64 0) rfl); (have z5 := blkFz BK.out (i := 5) (by simp)); (have y6 := blkAt BK.out (i := 6) (v := .int .i64 0) rfl); (have z6 := blkFz BK.out (i := 6) (by simp)); (have y7 := blkAt BK.out (i := 7) (v := .int .i64 0) rfl); (have z7 := blkFz BK.out (i := 7) (by simp)); (have y8 := blkAt BK.out (i := 8) (v := .int .i64 0) rfl); (have z8 := blkFz BK.out (i := 8) (by simp)))); clear gn))
          all_goals (go_wp2_with fail; go_meet)
          all_goals first
            | (have _ := BK.out; exact ⟨_, rfl, rfl, Lib.hid (Blk.put9 BK.out), Grew.put9 GA (by omega)⟩)
            | exact ⟨_, rfl, rfl, Lib.hid (Blk.new _ _ _), Grew.alloc GA _ _⟩
        case rest =>
          clear KS GA
          obtain ⟨B8, rfl, rfl, H8, GN⟩ := hcut
          rename World => we
          have SU := Lib.hid (SU.out.grown GN)
          have H4 := Lib.hid (H4.out.grown GN)
          have H6 := Lib.hid (H6.out.grown GN)
          have GP := Lib.hid (GP.out.trans GN)
          clear GN
          go_wp2_with fail
          have KS : Hid (∀ W, Grew we W → (W.cell? ⟨w1.heap.size, 0, none⟩ = some (.int .i64 1) ∧ W.cell? ⟨w1.heap.size, 1, none⟩ = some (.int .i64 7200) ∧ W.cell? ⟨w1.heap.size, 2, none⟩ = some (.int .i64 2) ∧ W.cell? ⟨w1.heap.size, 3, none⟩ = some (.int .i64 0) ∧ W.cell? ⟨w1.heap.size, 4, none⟩ = some (.int .i64 0) ∧ W.cell? ⟨w1.heap.size, 5, none⟩ = some (.int .i64 0) ∧ W.cell? ⟨w1.heap.size, 6, none⟩ = some (.int .i64 (-100)) ∧ W.cell? ⟨w1.heap.size, 7, none⟩ = some (.int .i64 100) ∧ W.cell? ⟨w1.heap.size, 8, none⟩ = some (.int .i64 (-100)) ∧ W.cell? ⟨w1.heap.size, 9, none⟩ = some (.int .i64 100) ∧ W.cell? ⟨w1.heap.size, 10, none⟩ = some (.int .i64 0) ∧ W.cell? ⟨w1.heap.size, 11, none⟩ = some (.int .i64 0) ∧ W.cell? ⟨w1.heap.size, 12, none⟩ = some (.slice (some ⟨b0, 0, none⟩) 1 1))) := Lib.hid (fun W g => by
            have hb := HB.out.grown (GP.out.trans g)
            exact ⟨blkAt hb rfl, blkAt hb rfl, blkAt hb rfl, blkAt hb rfl, blkAt hb rfl, blkAt hb rfl, blkAt hb rfl, blkAt hb rfl, blkAt hb rfl, blkAt hb rfl, blkAt hb rfl, blkAt hb rfl, blkAt hb rfl⟩)
          have GA := Grew.refl we
          go_cut [10, 11] from 42 to 48 (fun s10 s11 wx => ∃ B, s10 = .pointer (some ⟨B, 0, none⟩) ∧ s11 = .int .i64 1 ∧ Hid (Blk wx B #[.int .i64 0, .int .i64 0, .int .i64 0, .int .i64 0, .int .i64 0, .int .i64 0, .int .i64 0, .int .i64 0, .int .i64 0] 25) ∧ Grew we wx)
          case first =>
            go_region_held3 (fun W => W.cell? ⟨w1.heap.size, 0, none⟩ = some (.int .i64 1) ∧ W.cell? ⟨w1.heap.size, 1, none⟩ = some (.int .i64 7200) ∧ W.cell? ⟨w1.heap.size, 2, none⟩ = some (.int .i64 2) ∧ W.cell? ⟨w1.heap.size, 3, none⟩ = some (.int .i64 0) ∧ W.cell? ⟨w1.heap.size, 4, none⟩ = some (.int .i64 0) ∧ W.cell? ⟨w1.heap.size, 5, none⟩ = some (.int .i64 0) ∧ W.cell? ⟨w1.heap.size, 6, none⟩ = some (.int .i64 (-100)) ∧ W.cell? ⟨w1.heap.size, 7, none⟩ = some (.int .i64 100) ∧ W.cell? ⟨w1.heap.size, 8, none⟩ = some (.int .i64 (-100)) ∧ W.cell? ⟨w1.heap.size, 9, none⟩ = some (.int .i64 100) ∧ W.cell? ⟨w1.heap.size, 10, none⟩ = some (.int .i64 0) ∧ W.cell? ⟨w1.heap.size, 11, none⟩ = some (.int .i64 0) ∧ W.cell? ⟨w1.heap.size, 12, none⟩ = some (.slice (some ⟨b0, 0, none⟩) 1 1)) (exact KS.out _ (by (repeat' (first | (with_reducible exact Grew.refl _) | (with_reducible assumption) | (with_reducible refine Grew.alloc ?_ _ _) | (with_reducible refine Grew.drew ?_) | (with_reducible refine Grew.drewN ?_ _) | (with_reducible refine Grew.setCell ?_ ?_ _) | go_size))))
              (first
                | (go_at_call 16; refine (AT.out _ _ _).mono ?_; rintro e w4 ⟨rfl, gn⟩; (first | (have BK := Lib.hid ((Blk.new _ _ _).grown gn)) | (have BK := Lib.hid ((Blk.drew (Blk.new _ _ _)).grown gn)) | (have BK := Lib.hid (BK.out.grown gn)) | skip); (try rw [World.size_drew] at BK); have GA : Grew we w4 := Grew.trans (by (repeat' (first | (with_reducible exact Grew.refl _) | (with_reducible assumption) | (with_reducible refine Grew.alloc ?_ _ _) | (with_reducible refine Grew.drew ?_) | (with_reducible refine Grew.drewN ?_ _) | (with_reducible refine Grew.setCell ?_ ?_ _) | go_size))) gn; have zq := GA.size; clear gn)
                | (go_at_call 10; refine (B5.out _ (GP.out.trans (by (repeat' (first | (with_reducible exact Grew.refl _) | (with_reducible assumption) | (with_reducible refine Grew.alloc ?_ _ _) | (with_reducible refine Grew.drew ?_) | (with_reducible refine Grew.drewN ?_ _) | (with_reducible refine Grew.setCell ?_ ?_ _) | go_size))))).mono ?_; rintro e w6 ⟨rfl, gn⟩; (first | (have BK := Lib.hid ((Blk.new _ _ _).grown gn)) | (have BK := Lib.hid ((Blk.drew (Blk.new _ _ _)).grown gn)) | (have BK := Lib.hid (BK.out.grown gn)) | skip); (try rw [World.size_drew] at BK); have GA : Grew we w6 := Grew.trans (by (repeat' (first | (with_reducible exact Grew.refl _) | (with_reducible assumption) | (with_reducible refine Grew.alloc ?_ _ _) | (with_reducible refine Grew.drew ?_) | (with_reducible refine Grew.drewN ?_ _) | (with_reducible refine Grew.setCell ?_ ?_ _) | go_size))) gn; have zq := GA.size; (try (have yl := BK.out.lt)); (try ((have y0 := blkAt BK.out (i := 0) (v := .int .i64 0) rfl); (have z0 := blkFz BK.out (i := 0) (by simp)); (have y1 := blkAt BK.out (i := 1) (v := .int .i64 0) rfl); (have z1 := blkFz BK.out (i := 1) (by simp)); (have y2 := blkAt BK.out (i := 2) (v := .int .i64 0) rfl); (have z2 := blkFz BK.out (i := 2) (by simp)); (have y3 := blkAt BK.out (i := 3) (v := .int .i64 0) rfl); (have z3 := blkFz BK.out (i := 3) (by simp)); (have y4 := blkAt BK.out (i := 4) (v := .int .i64 0) rfl); (have z4 := blkFz BK.out (i := 4) (by simp)); (have y5 := blkAt BK.out (i := 5) (v := .int .i64 0) rfl); (have z5 := blkFz BK.out (i := 5) (by simp)); (have y6 := blkAt BK.out (i := 6) (v := .int .i64 0) rfl); (have z6 := blkFz BK.out (i := 6) (by simp)); (have y7 := blkAt BK.out (i := 7) (v := .int .i64 0) rfl); (have z7 := blkFz BK.out (i := 7) (by simp)); (have y8 := blkAt BK.out (i := 8) (v := .int .i64 0) rfl); (have z8 := blkFz BK.out (i := 8) (by simp)))); clear gn))
            all_goals (go_wp2_with fail; go_meet)
            all_goals first
              | (have _ := BK.out; exact ⟨_, rfl, rfl, Lib.hid (Blk.put9 BK.out), Grew.put9 GA (by omega)⟩)
              | exact ⟨_, rfl, rfl, Lib.hid (Blk.new _ _ _), Grew.alloc GA _ _⟩
          case rest =>
            clear KS GA
            obtain ⟨B10, rfl, rfl, H10, GN⟩ := hcut
            rename World => wf
            have SU := Lib.hid (SU.out.grown GN)
            have H4 := Lib.hid (H4.out.grown GN)
            have H6 := Lib.hid (H6.out.grown GN)
            have H8 := Lib.hid (H8.out.grown GN)
            have GP := Lib.hid (GP.out.trans GN)
            clear GN
            go_wp2_with fail
            have KS : Hid (∀ W, Grew wf W → (W.cell? ⟨w1.heap.size, 0, none⟩ = some (.int .i64 1) ∧ W.cell? ⟨w1.heap.size, 1, none⟩ = some (.int .i64 7200) ∧ W.cell? ⟨w1.heap.size, 2, none⟩ = some (.int .i64 2) ∧ W.cell? ⟨w1.heap.size, 3, none⟩ = some (.int .i64 0) ∧ W.cell? ⟨w1.heap.size, 4, none⟩ = some (.int .i64 0) ∧ W.cell? ⟨w1.heap.size, 5, none⟩ = some (.int .i64 0) ∧ W.cell? ⟨w1.heap.size, 6, none⟩ = some (.int .i64 (-100)) ∧ W.cell? ⟨w1.heap.size, 7, none⟩ = some (.int .i64 100) ∧ W.cell? ⟨w1.heap.size, 8, none⟩ = some (.int .i64 (-100)) ∧ W.cell? ⟨w1.heap.size, 9, none⟩ = some (.int .i64 100) ∧ W.cell? ⟨w1.heap.size, 10, none⟩ = some (.int .i64 0) ∧ W.cell? ⟨w1.heap.size, 11, none⟩ = some (.int .i64 0) ∧ W.cell? ⟨w1.heap.size, 12, none⟩ = some (.slice (some ⟨b0, 0, none⟩) 1 1))) := Lib.hid (fun W g => by
              have hb := HB.out.grown (GP.out.trans g)
              exact ⟨blkAt hb rfl, blkAt hb rfl, blkAt hb rfl, blkAt hb rfl, blkAt hb rfl, blkAt hb rfl, blkAt hb rfl, blkAt hb rfl, blkAt hb rfl, blkAt hb rfl, blkAt hb rfl, blkAt hb rfl, blkAt hb rfl⟩)
            have GA := Grew.refl wf
            go_cut [12, 13] from 49 to 55 (fun s12 s13 wx => ∃ va vc, s12 = .slice va 0 vc ∧ s13 = .int .i64 1 ∧ Grew wf wx)
            case first =>
              go_region_held3 (fun W => W.cell? ⟨w1.heap.size, 0, none⟩ = some (.int .i64 1) ∧ W.cell? ⟨w1.heap.size, 1, none⟩ = some (.int .i64 7200) ∧ W.cell? ⟨w1.heap.size, 2, none⟩ = some (.int .i64 2) ∧ W.cell? ⟨w1.heap.size, 3, none⟩ = some (.int .i64 0) ∧ W.cell? ⟨w1.heap.size, 4, none⟩ = some (.int .i64 0) ∧ W.cell? ⟨w1.heap.size, 5, none⟩ = some (.int .i64 0) ∧ W.cell? ⟨w1.heap.size, 6, none⟩ = some (.int .i64 (-100)) ∧ W.cell? ⟨w1.heap.size, 7, none⟩ = some (.int .i64 100) ∧ W.cell? ⟨w1.heap.size, 8, none⟩ = some (.int .i64 (-100)) ∧ W.cell? ⟨w1.heap.size, 9, none⟩ = some (.int .i64 100) ∧ W.cell? ⟨w1.heap.size, 10, none⟩ = some (.int .i64 0) ∧ W.cell? ⟨w1.heap.size, 11, none⟩ = some (.int .i64 0) ∧ W.cell? ⟨w1.heap.size, 12, none⟩ = some (.slice (some ⟨b0, 0, none⟩) 1 1)) (exact KS.out _ (by (repeat' (first | (with_reducible exact Grew.refl _) | (with_reducible assumption) | (with_reducible refine Grew.alloc ?_ _ _) | (with_reducible refine Grew.drew ?_) | (with_reducible refine Grew.drewN ?_ _) | (with_reducible refine Grew.setCell ?_ ?_ _) | go_size))))
                (first
                  | (go_at_call 16; refine (AT.out _ _ _).mono ?_; rintro e w4 ⟨rfl, gn⟩; (first | (have BK := Lib.hid ((Blk.new _ _ _).grown gn)) | (have BK := Lib.hid ((Blk.drew (Blk.new _ _ _)).grown gn)) | (have BK := Lib.hid (BK.out.grown gn)) | skip); (try rw [World.size_drew] at BK); have GA : Grew wf w4 := Grew.trans (by (repeat' (first | (with_reducible exact Grew.refl _) | (with_reducible assumption) | (with_reducible refine Grew.alloc ?_ _ _) | (with_reducible refine Grew.drew ?_) | (with_reducible refine Grew.drewN ?_ _) | (with_reducible refine Grew.setCell ?_ ?_ _) | go_size))) gn; have zq := GA.size; clear gn)
                  | (go_at_call 12; refine (D6.out _ (GP.out.trans (by (repeat' (first | (with_reducible exact Grew.refl _) | (with_reducible assumption) | (with_reducible refine Grew.alloc ?_ _ _) | (with_reducible refine Grew.drew ?_) | (with_reducible refine Grew.drewN ?_ _) | (with_reducible refine Grew.setCell ?_ ?_ _) | go_size))))).mono ?_; rintro e w6 ⟨rfl, gn⟩; (first | (have BK := Lib.hid ((Blk.new _ _ _).grown gn)) | (have BK := Lib.hid ((Blk.drew (Blk.new _ _ _)).grown gn)) | (have BK := Lib.hid (BK.out.grown gn)) | skip); (try rw [World.size_drew] at BK); have GA : Grew wf w6 := Grew.trans (by (repeat' (first | (with_reducible exact Grew.refl _) | (with_reducible assumption) | (with_reducible refine Grew.alloc ?_ _ _) | (with_reducible refine Grew.drew ?_) | (with_reducible refine Grew.drewN ?_ _) | (with_reducible refine Grew.setCell ?_ ?_ _) | go_size))) gn; have zq := GA.size; (try (have yl := BK.out.lt)); (try ((have y0 := blkAt BK.out (i := 0) (v := .int .i64 0) rfl); (have z0 := blkFz BK.out (i := 0) (by simp)); (have y1 := blkAt BK.out (i := 1) (v := .int .i64 0) rfl); (have z1 := blkFz BK.out (i := 1) (by simp)); (have y2 := blkAt BK.out (i := 2) (v := .int .i64 0) rfl); (have z2 := blkFz BK.out (i := 2) (by simp)); (have y3 := blkAt BK.out (i := 3) (v := .int .i64 0) rfl); (have z3 := blkFz BK.out (i := 3) (by simp)); (have y4 := blkAt BK.out (i := 4) (v := .int .i64 0) rfl); (have z4 := blkFz BK.out (i := 4) (by simp)); (have y5 := blkAt BK.out (i := 5) (v := .int .i64 0) rfl); (have z5 := blkFz BK.out (i := 5) (by simp)); (have y6 := blkAt BK.out (i := 6) (v := .int .i64 0) rfl); (have z6 := blkFz BK.out (i := 6) (by simp)); (have y7 := blkAt BK.out (i := 7) (v := .int .i64 0) rfl); (have z7 := blkFz BK.out (i := 7) (by simp)); (have y8 := blkAt BK.out (i := 8) (v := .int .i64 0) rfl); (have z8 := blkFz BK.out (i := 8) (by simp)))); clear gn))
              all_goals (go_wp2_with fail; go_meet)
              all_goals first
                | exact ⟨_, _, rfl, rfl, (by (repeat' (first | (with_reducible exact Grew.refl _) | (with_reducible assumption) | (with_reducible refine Grew.alloc ?_ _ _) | (with_reducible refine Grew.drew ?_) | (with_reducible refine Grew.drewN ?_ _) | (with_reducible refine Grew.setCell ?_ ?_ _) | go_size)))⟩
            case rest =>
              clear KS GA
              obtain ⟨va', vc', rfl, rfl, GN⟩ := hcut
              rename World => wg
              have SU := Lib.hid (SU.out.grown GN)
              have H4 := Lib.hid (H4.out.grown GN)
              have H6 := Lib.hid (H6.out.grown GN)
              have H8 := Lib.hid (H8.out.grown GN)
              have GP := Lib.hid (GP.out.trans GN)
              clear GN
              have hb0 := HB.out.grown GP.out
              have e0 := blkAt hb0 (i := 0) rfl
              have e1 := blkAt hb0 (i := 1) rfl
              have e2 := blkAt hb0 (i := 2) rfl
              have e3 := blkAt hb0 (i := 3) rfl
              have e4 := blkAt hb0 (i := 4) rfl
              have e5 := blkAt hb0 (i := 5) rfl
              have e6 := blkAt hb0 (i := 6) rfl
              have e7 := blkAt hb0 (i := 7) rfl
              have e8 := blkAt hb0 (i := 8) rfl
              have e9 := blkAt hb0 (i := 9) rfl
              have e10 := blkAt hb0 (i := 10) rfl
              have e11 := blkAt hb0 (i := 11) rfl
              have e12 := blkAt hb0 (i := 12) rfl
              go_wp2_with fail
              refine (V7.out _ GP.out).mono ?_
              rintro e wh ⟨rfl, gh⟩
              have SU := Lib.hid (SU.out.grown gh)
              have H4 := Lib.hid (H4.out.grown gh)
              have H6 := Lib.hid (H6.out.grown gh)
              have H8 := Lib.hid (H8.out.grown gh)
              have GP := Lib.hid (GP.out.trans gh)
              clear gh hb0 e0 e1 e2 e3 e4 e5 e6 e7 e8 e9 e10 e11 e12
              go_wp2_with fail
              refine (V8.out _ GP.out).mono ?_
              rintro e wi ⟨rfl, gi⟩
              have SU := Lib.hid (SU.out.grown gi)
              have H4 := Lib.hid (H4.out.grown gi)
              have H6 := Lib.hid (H6.out.grown gi)
              have H8 := Lib.hid (H8.out.grown gi)
              have GP := Lib.hid (GP.out.trans gi)
              clear gi
              go_wp2_with fail
              obtain ⟨wj, hwj⟩ : ∃ wj, wi.alloc (.cells #[.int .i64 (-100), .int .i64 300] 23) = wj := ⟨_, rfl⟩
              have HW : Blk wj wi.heap.size #[.int .i64 (-100), .int .i64 300] 23 := by rw [← hwj]; exact Blk.new _ _ _
              have GJ : Grew wi wj := by rw [← hwj]; exact (Grew.refl _).alloc _ _
              try rw [hwj]
              clear hwj
              have SU := Lib.hid (SU.out.grown GJ)
              have GP := Lib.hid (GP.out.trans GJ)
              have KS : Hid (∀ W, Grew wj W → (W.cell? ⟨w1.heap.size, 0, none⟩ = some (.int .i64 1) ∧ W.cell? ⟨w1.heap.size, 1, none⟩ = some (.int .i64 7200) ∧ W.cell? ⟨w1.heap.size, 2, none⟩ = some (.int .i64 2) ∧ W.cell? ⟨w1.heap.size, 3, none⟩ = some (.int .i64 0) ∧ W.cell? ⟨w1.heap.size, 4, none⟩ = some (.int .i64 0) ∧ W.cell? ⟨w1.heap.size, 5, none⟩ = some (.int .i64 0) ∧ W.cell? ⟨w1.heap.size, 6, none⟩ = some (.int .i64 (-100)) ∧ W.cell? ⟨w1.heap.size, 7, none⟩ = some (.int .i64 100) ∧ W.cell? ⟨w1.heap.size, 8, none⟩ = some (.int .i64 (-100)) ∧ W.cell? ⟨w1.heap.size, 9, none⟩ = some (.int .i64 100) ∧ W.cell? ⟨w1.heap.size, 10, none⟩ = some (.int .i64 0) ∧ W.cell? ⟨w1.heap.size, 11, none⟩ = some (.int .i64 0) ∧ W.cell? ⟨w1.heap.size, 12, none⟩ = some (.slice (some ⟨b0, 0, none⟩) 1 1) ∧ W.cell? ⟨B4, 0, none⟩ = some (.int .i64 0) ∧ W.cell? ⟨B4, 1, none⟩ = some (.int .i64 0) ∧ W.cell? ⟨B4, 2, none⟩ = some (.int .i64 0) ∧ W.cell? ⟨B4, 3, none⟩ = some (.int .i64 (-100)) ∧ W.cell? ⟨B4, 4, none⟩ = some (.int .i64 300) ∧ W.cell? ⟨B4, 5, none⟩ = some (.int .i64 (-100)) ∧ W.cell? ⟨B4, 6, none⟩ = some (.int .i64 100) ∧ W.cell? ⟨B4, 7, none⟩ = some (.int .i64 0) ∧ W.cell? ⟨B4, 8, none⟩ = some (.int .i64 60) ∧ W.cell? ⟨wi.heap.size, 0, none⟩ = some (.int .i64 (-100)) ∧ W.cell? ⟨wi.heap.size, 1, none⟩ = some (.int .i64 300) ∧ W.cell? ⟨B6, 0, none⟩ = some (.int .i64 0) ∧ W.cell? ⟨B6, 1, none⟩ = some (.int .i64 0) ∧ W.cell? ⟨B6, 2, none⟩ = some (.int .i64 0) ∧ W.cell? ⟨B6, 3, none⟩ = some (.int .i64 (-100)) ∧ W.cell? ⟨B6, 4, none⟩ = some (.int .i64 100) ∧ W.cell? ⟨B6, 5, none⟩ = some (.int .i64 (-100)) ∧ W.cell? ⟨B6, 6, none⟩ = some (.int .i64 100) ∧ W.cell? ⟨B6, 7, none⟩ = some (.int .i64 0) ∧ W.cell? ⟨B6, 8, none⟩ = some (.int .i64 0) ∧ W.cell? ⟨B8, 0, none⟩ = some (.int .i64 0) ∧ W.cell? ⟨B8, 1, none⟩ = some (.int .i64 0) ∧ W.cell? ⟨B8, 2, none⟩ = some (.int .i64 0) ∧ W.cell? ⟨B8, 3, none⟩ = some (.int .i64 200) ∧ W.cell? ⟨B8, 4, none⟩ = some (.int .i64 300) ∧ W.cell? ⟨B8, 5, none⟩ = some (.int .i64 0) ∧ W.cell? ⟨B8, 6, none⟩ = some (.int .i64 0) ∧ W.cell? ⟨B8, 7, none⟩ = some (.int .i64 50) ∧ W.cell? ⟨B8, 8, none⟩ = some (.int .i64 60) ∧ W.cell? ⟨b0, 0, none⟩ = some (.int .i64 0) ∧ W.cell? ⟨b0, 1, none⟩ = some (.int .i64 0) ∧ W.cell? ⟨b0, 2, none⟩ = some (.int .i64 0) ∧ W.cell? ⟨b0, 3, none⟩ = some (.int .i64 200) ∧ W.cell? ⟨b0, 4, none⟩ = some (.int .i64 300) ∧ W.cell? ⟨b0, 5, none⟩ = some (.int .i64 0) ∧ W.cell? ⟨b0, 6, none⟩ = some (.int .i64 0) ∧ W.cell? ⟨b0, 7, none⟩ = some (.int .i64 50) ∧ W.cell? ⟨b0, 8, none⟩ = some (.int .i64 60))) := Lib.hid (fun W g => by
                have hb := HB.out.grown (GP.out.trans g)
                have h4 := (H4.out.grown GJ).grown g
                have h6 := (H6.out.grown GJ).grown g
                have h8 := (H8.out.grown GJ).grown g
                have hw := HW.grown g
                obtain ⟨bb, oo, ee, hr⟩ := (HS.out.grew (GP.out.trans g)).row (by decide)
                obtain ⟨rfl, rfl⟩ : bb = b0 ∧ oo = 0 := by cases ee; exact ⟨rfl, rfl⟩
                obtain ⟨r0, r1, r2, r3, r4, r5, r6, r7, r8⟩ := hr.at (i := 0) (by decide)
                exact ⟨blkAt hb rfl, blkAt hb rfl, blkAt hb rfl, blkAt hb rfl, blkAt hb rfl, blkAt hb rfl, blkAt hb rfl, blkAt hb rfl, blkAt hb rfl, blkAt hb rfl, blkAt hb rfl, blkAt hb rfl, blkAt hb rfl, blkAt h4 rfl, blkAt h4 rfl, blkAt h4 rfl, blkAt h4 rfl, blkAt h4 rfl, blkAt h4 rfl, blkAt h4 rfl, blkAt h4 rfl, blkAt h4 rfl, blkAt hw rfl, blkAt hw rfl, blkAt h6 rfl, blkAt h6 rfl, blkAt h6 rfl, blkAt h6 rfl, blkAt h6 rfl, blkAt h6 rfl, blkAt h6 rfl, blkAt h6 rfl, blkAt h6 rfl, blkAt h8 rfl, blkAt h8 rfl, blkAt h8 rfl, blkAt h8 rfl, blkAt h8 rfl, blkAt h8 rfl, blkAt h8 rfl, blkAt h8 rfl, blkAt h8 rfl, r0, r1, r2, r3, r4, r5, r6, r7, r8⟩)
              have SM : Hid (∀ W b, Sl W (.slice va 2 vc) [(200, 0), (300, 0)] → Hl.Row W b 0 [(200, 0), (300, 0)] → Calls Tryz.prog 14 #[.slice va 2 vc, .slice (some ⟨b, 0, none⟩) 2 2] W fun e w' => e = .returned (.bool true) ∧ Grew W w') := Lib.hid (fun W b h1 h2 => by
                refine (same_any _ _ _ _ W h1 (Or.inr ⟨b, 0, 2, rfl, h2⟩) (by decide)).mono ?_
                rintro e w' ⟨r, rfl, hr, g⟩
                exact ⟨by rw [hr.2 rfl], g⟩)
              have RN : Hid (∀ W : World, Hl.Row (W.alloc (.cells #[.int .i64 200, .int .i64 0, .int .i64 300, .int .i64 0] 30)) W.heap.size 0 [(200, 0), (300, 0)]) := Lib.hid (fun W => row_new [(200, 0), (300, 0)] _ rfl W _)
              have GA := Grew.refl wj
              clear H4 H6 H8 H10 HW D1 B2 A3 A4 B5 D6 V7 V8
              go_region_held3 (fun W => W.cell? ⟨w1.heap.size, 0, none⟩ = some (.int .i64 1) ∧ W.cell? ⟨w1.heap.size, 1, none⟩ = some (.int .i64 7200) ∧ W.cell? ⟨w1.heap.size, 2, none⟩ = some (.int .i64 2) ∧ W.cell? ⟨w1.heap.size, 3, none⟩ = some (.int .i64 0) ∧ W.cell? ⟨w1.heap.size, 4, none⟩ = some (.int .i64 0) ∧ W.cell? ⟨w1.heap.size, 5, none⟩ = some (.int .i64 0) ∧ W.cell? ⟨w1.heap.size, 6, none⟩ = some (.int .i64 (-100)) ∧ W.cell? ⟨w1.heap.size, 7, none⟩ = some (.int .i64 100) ∧ W.cell? ⟨w1.heap.size, 8, none⟩ = some (.int .i64 (-100)) ∧ W.cell? ⟨w1.heap.size, 9, none⟩ = some (.int .i64 100) ∧ W.cell? ⟨w1.heap.size, 10, none⟩ = some (.int .i64 0) ∧ W.cell? ⟨w1.heap.size, 11, none⟩ = some (.int .i64 0) ∧ W.cell? ⟨w1.heap.size, 12, none⟩ = some (.slice (some ⟨b0, 0, none⟩) 1 1) ∧ W.cell? ⟨B4, 0, none⟩ = some (.int .i64 0) ∧ W.cell? ⟨B4, 1, none⟩ = some (.int .i64 0) ∧ W.cell? ⟨B4, 2, none⟩ = some (.int .i64 0) ∧ W.cell? ⟨B4, 3, none⟩ = some (.int .i64 (-100)) ∧ W.cell? ⟨B4, 4, none⟩ = some (.int .i64 300) ∧ W.cell? ⟨B4, 5, none⟩ = some (.int .i64 (-100)) ∧ W.cell? ⟨B4, 6, none⟩ = some (.int .i64 100) ∧ W.cell? ⟨B4, 7, none⟩ = some (.int .i64 0) ∧ W.cell? ⟨B4, 8, none⟩ = some (.int .i64 60) ∧ W.cell? ⟨wi.heap.size, 0, none⟩ = some (.int .i64 (-100)) ∧ W.cell? ⟨wi.heap.size, 1, none⟩ = some (.int .i64 300) ∧ W.cell? ⟨B6, 0, none⟩ = some (.int .i64 0) ∧ W.cell? ⟨B6, 1, none⟩ = some (.int .i64 0) ∧ W.cell? ⟨B6, 2, none⟩ = some (.int .i64 0) ∧ W.cell? ⟨B6, 3, none⟩ = some (.int .i64 (-100)) ∧ W.cell? ⟨B6, 4, none⟩ = some (.int .i64 100) ∧ W.cell? ⟨B6, 5, none⟩ = some (.int .i64 (-100)) ∧ W.cell? ⟨B6, 6, none⟩ = some (.int .i64 100) ∧ W.cell? ⟨B6, 7, none⟩ = some (.int .i64 0) ∧ W.cell? ⟨B6, 8, none⟩ = some (.int .i64 0) ∧ W.cell? ⟨B8, 0, none⟩ = some (.int .i64 0) ∧ W.cell? ⟨B8, 1, none⟩ = some (.int .i64 0) ∧ W.cell? ⟨B8, 2, none⟩ = some (.int .i64 0) ∧ W.cell? ⟨B8, 3, none⟩ = some (.int .i64 200) ∧ W.cell? ⟨B8, 4, none⟩ = some (.int .i64 300) ∧ W.cell? ⟨B8, 5, none⟩ = some (.int .i64 0) ∧ W.cell? ⟨B8, 6, none⟩ = some (.int .i64 0) ∧ W.cell? ⟨B8, 7, none⟩ = some (.int .i64 50) ∧ W.cell? ⟨B8, 8, none⟩ = some (.int .i64 60) ∧ W.cell? ⟨b0, 0, none⟩ = some (.int .i64 0) ∧ W.cell? ⟨b0, 1, none⟩ = some (.int .i64 0) ∧ W.cell? ⟨b0, 2, none⟩ = some (.int .i64 0) ∧ W.cell? ⟨b0, 3, none⟩ = some (.int .i64 200) ∧ W.cell? ⟨b0, 4, none⟩ = some (.int .i64 300) ∧ W.cell? ⟨b0, 5, none⟩ = some (.int .i64 0) ∧ W.cell? ⟨b0, 6, none⟩ = some (.int .i64 0) ∧ W.cell? ⟨b0, 7, none⟩ = some (.int .i64 50) ∧ W.cell? ⟨b0, 8, none⟩ = some (.int .i64 60)) (exact KS.out _ (by (repeat' (first | (with_reducible exact Grew.refl _) | (with_reducible assumption) | (with_reducible refine Grew.alloc ?_ _ _) | (with_reducible refine Grew.drew ?_) | (with_reducible refine Grew.drewN ?_ _) | (with_reducible refine Grew.setCell ?_ ?_ _) | go_size))))
                (first
                  | (go_at_call 16; refine (AT.out _ _ _).mono ?_; rintro e w4 ⟨rfl, gn⟩; have GA : Grew wj w4 := Grew.trans (by (repeat' (first | (with_reducible exact Grew.refl _) | (with_reducible assumption) | (with_reducible refine Grew.alloc ?_ _ _) | (with_reducible refine Grew.drew ?_) | (with_reducible refine Grew.drewN ?_ _) | (with_reducible refine Grew.setCell ?_ ?_ _) | go_size))) gn; clear gn)
                  | (go_at_call 14; refine (SM.out _ _ (SU.out.grown (by (repeat' (first | (with_reducible exact Grew.refl _) | (with_reducible assumption) | (with_reducible refine Grew.alloc ?_ _ _) | (with_reducible refine Grew.drew ?_) | (with_reducible refine Grew.drewN ?_ _) | (with_reducible refine Grew.setCell ?_ ?_ _) | go_size)))) (RN.out _)).mono ?_; rintro e w6 ⟨rfl, gn⟩; have GA : Grew wj w6 := Grew.trans (by (repeat' (first | (with_reducible exact Grew.refl _) | (with_reducible assumption) | (with_reducible refine Grew.alloc ?_ _ _) | (with_reducible refine Grew.drew ?_) | (with_reducible refine Grew.drewN ?_ _) | (with_reducible refine Grew.setCell ?_ ?_ _) | go_size))) gn; clear gn))
              all_goals go_wp2_with fail
              all_goals go_ret
              all_goals exact ⟨by first | rfl | (simp; done), GT.out.trans (GP.out.trans (by (repeat' (first | (with_reducible exact Grew.refl _) | (with_reducible assumption) | (with_reducible refine Grew.alloc ?_ _ _) | (with_reducible refine Grew.drew ?_) | (with_reducible refine Grew.drewN ?_ _) | (with_reducible refine Grew.setCell ?_ ?_ _) | go_size))))⟩
end Td
end Go.Proofs.YtpiajdahmcelnaaGreat
