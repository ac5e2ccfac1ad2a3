/-
  The reference: where a current carries.
-/
import Derived.Test.YtpiajdahmcelnaaGreatMTdZd
import Derived.Test.YtpiajdahmcelnaaGreatMHullOwn
import Derived.Test.YtpiajdahmcelnaaGreatMExactPlain
namespace Go.Proofs.YtpiajdahmcelnaaGreat
open Go.RowKit Hl
namespace Td
set_option maxRecDepth 100000
theorem Blk.put2 {W : World} {B : Nat} {T : TypeId} {a0 a1 v0 v1 : Value} (h : Blk W B #[a0, a1] T) : Blk ((W.setCell ⟨B, 0, none⟩ v0).setCell ⟨B, 1, none⟩ v1) B #[v0, v1] T := by
  have h9 := Blk.set (o := 1) v1 (Blk.set (o := 0) v0 h)
  simp only [List.setIfInBounds_toArray, List.set_cons_zero, List.set_cons_succ] at h9
  exact h9
theorem Grew.put2 {W w : World} (h : Grew W w) {B : Nat} {v0 v1 : Value} (hB : W.heap.size ≤ B) : Grew W ((w.setCell ⟨B, 0, none⟩ v0).setCell ⟨B, 1, none⟩ v1) := Grew.setCell (Grew.setCell h hB _) hB _
theorem ca_bd {a n : Int} (ha : -5000 ≤ a ∧ a ≤ 5000) (hn : 0 ≤ n ∧ n ≤ 100000) : -500000000 ≤ a * n ∧ a * n ≤ 500000000 := by
  have h1 : a * n ≤ 5000 * n := Int.mul_le_mul_of_nonneg_right ha.2 hn.1
  have h2 : -5000 * n ≤ a * n := Int.mul_le_mul_of_nonneg_right ha.1 hn.1
  omega
set_option maxHeartbeats 16000000 in
theorem R.carried_c (k : Bd) (n : Int) (w : World) (hk : Bok k) (hn : 0 ≤ n ∧ n ≤ 100000) :
    Calls Tryz.prog 39 #[.agg #[.int .i64 0, .int .i64 0, .int .i64 0, .int .i64 k.a, .int .i64 k.b, .int .i64 k.c, .int .i64 k.d, .int .i64 k.e, .int .i64 k.f], .int .i64 n] w fun e w' => e = .returned (.tuple #[.agg #[.int .i64 (Ca k.a k.b n).1, .int .i64 (Ca k.c k.d n).1], .agg #[.int .i64 (Ca k.a k.b n).2, .int .i64 (Ca k.c k.d n).2]]) ∧ Grew w w' := by
  rcases k with ⟨a, b, c, d, e, f⟩
  obtain ⟨⟨ha1, ha2, ha3⟩, ⟨hc1, hc2, hc3⟩, _⟩ := hk
  simp only at *
  have pa := ca_bd (a := a) ⟨by omega, by omega⟩ hn
  have pb := ca_bd (a := b) ⟨by omega, by omega⟩ hn
  have pc := ca_bd (a := c) ⟨by omega, by omega⟩ hn
  have pd := ca_bd (a := d) ⟨by omega, by omega⟩ hn
  obtain ⟨FL, hFL⟩ : ∃ F : Int → Int, (fun m => Ex.fl m 100) = F := ⟨_, rfl⟩
  obtain ⟨CE, hCE⟩ : ∃ F : Int → Int, (fun m => Ex.ce m 100) = F := ⟨_, rfl⟩
  have eF : ∀ m, Ex.fl m 100 = FL m := fun m => by rw [← hFL]
  have eC : ∀ m, Ex.ce m 100 = CE m := fun m => by rw [← hCE]
  have DU : Hid (∀ (m : Int) (W : World), -1000000000 ≤ m ∧ m ≤ 1000000000 → Calls Tryz.prog 57 #[.int .i64 m, .int .i64 100] W fun e w' => e = .returned (.int .i64 (FL m)) ∧ W = w') := Lib.hid (fun m W h => by
    have q := Ex.down_any m 100 W (by decide) (by omega)
    rwa [eF] at q)
  have UU : Hid (∀ (m : Int) (W : World), -1000000000 ≤ m ∧ m ≤ 1000000000 → Calls Tryz.prog 58 #[.int .i64 m, .int .i64 100] W fun e w' => e = .returned (.int .i64 (CE m)) ∧ W = w') := Lib.hid (fun m W h => by
    have q := Ex.up_any m 100 W (by decide) (by omega)
    rwa [eC] at q)
  unfold Ca
  simp only [eF, eC]
  clear eF eC hFL hCE ha1 ha2 ha3 hc1 hc2 hc3 hn
  have wa : IntKind.i64.wrap (a * n) = a * n := by rw [IntKind.wrap_i64]; omega
  have wb : IntKind.i64.wrap (b * n) = b * n := by rw [IntKind.wrap_i64]; omega
  have wc : IntKind.i64.wrap (c * n) = c * n := by rw [IntKind.wrap_i64]; omega
  have wd : IntKind.i64.wrap (d * n) = d * n := by rw [IntKind.wrap_i64]; omega
  have HF : Hid (∀ W, Grew (((w.alloc (.cells #[.int .i64 0, .int .i64 0, .int .i64 0, .int .i64 a, .int .i64 b, .int .i64 c, .int .i64 d, .int .i64 e, .int .i64 f] 25)).alloc (.cells #[.int .i64 0, .int .i64 0] 30)).alloc (.cells #[.int .i64 0, .int .i64 0] 30)) W → (W.cell? ⟨w.heap.size, 0, none⟩ = some (.int .i64 0) ∧ W.cell? ⟨w.heap.size, 1, none⟩ = some (.int .i64 0) ∧ W.cell? ⟨w.heap.size, 2, none⟩ = some (.int .i64 0) ∧ W.cell? ⟨w.heap.size, 3, none⟩ = some (.int .i64 a) ∧ W.cell? ⟨w.heap.size, 4, none⟩ = some (.int .i64 b) ∧ W.cell? ⟨w.heap.size, 5, none⟩ = some (.int .i64 c) ∧ W.cell? ⟨w.heap.size, 6, none⟩ = some (.int .i64 d) ∧ W.cell? ⟨w.heap.size, 7, none⟩ = some (.int .i64 e) ∧ W.cell? ⟨w.heap.size, 8, none⟩ = some (.int .i64 f))) := Lib.hid (fun W g => by
    have b0 := (((Blk.new w #[.int .i64 0, .int .i64 0, .int .i64 0, .int .i64 a, .int .i64 b, .int .i64 c, .int .i64 d, .int .i64 e, .int .i64 f] 25).alloc (.cells #[.int .i64 0, .int .i64 0] 30)).alloc (.cells #[.int .i64 0, .int .i64 0] 30)).grown g
    exact ⟨blkAt b0 rfl, blkAt b0 rfl, blkAt b0 rfl, blkAt b0 rfl, blkAt b0 rfl, blkAt b0 rfl, blkAt b0 rfl, blkAt b0 rfl, blkAt b0 rfl⟩)
  have B1 : Hid (∀ W, Grew (((w.alloc (.cells #[.int .i64 0, .int .i64 0, .int .i64 0, .int .i64 a, .int .i64 b, .int .i64 c, .int .i64 d, .int .i64 e, .int .i64 f] 25)).alloc (.cells #[.int .i64 0, .int .i64 0] 30)).alloc (.cells #[.int .i64 0, .int .i64 0] 30)) W → Blk W (w.heap.size + 1) #[.int .i64 0, .int .i64 0] 30) := Lib.hid (fun W g => ((blkN (W := w.alloc (.cells #[.int .i64 0, .int .i64 0, .int .i64 0, .int .i64 a, .int .i64 b, .int .i64 c, .int .i64 d, .int .i64 e, .int .i64 f] 25)) (k := w.heap.size + 1) (cs := #[.int .i64 0, .int .i64 0]) (t := 30) (by simp)).alloc (.cells #[.int .i64 0, .int .i64 0] 30)).grown g)
  have B2 : Hid (∀ W, Grew (((w.alloc (.cells #[.int .i64 0, .int .i64 0, .int .i64 0, .int .i64 a, .int .i64 b, .int .i64 c, .int .i64 d, .int .i64 e, .int .i64 f] 25)).alloc (.cells #[.int .i64 0, .int .i64 0] 30)).alloc (.cells #[.int .i64 0, .int .i64 0] 30)) W → Blk W (w.heap.size + 1 + 1) #[.int .i64 0, .int .i64 0] 30) := Lib.hid (fun W g => (blkN (W := (w.alloc (.cells #[.int .i64 0, .int .i64 0, .int .i64 0, .int .i64 a, .int .i64 b, .int .i64 c, .int .i64 d, .int .i64 e, .int .i64 f] 25)).alloc (.cells #[.int .i64 0, .int .i64 0] 30)) (k := w.heap.size + 1 + 1) (cs := #[.int .i64 0, .int .i64 0]) (t := 30) (by simp)).grown g)
  have G0 : Grew w (((w.alloc (.cells #[.int .i64 0, .int .i64 0, .int .i64 0, .int .i64 a, .int .i64 b, .int .i64 c, .int .i64 d, .int .i64 e, .int .i64 f] 25)).alloc (.cells #[.int .i64 0, .int .i64 0] 30)).alloc (.cells #[.int .i64 0, .int .i64 0] 30)) := ((Grew.refl w).alloc _ _).alloc _ _ |>.alloc _ _
  have z0 : (((w.alloc (.cells #[.int .i64 0, .int .i64 0, .int .i64 0, .int .i64 a, .int .i64 b, .int .i64 c, .int .i64 d, .int .i64 e, .int .i64 f] 25)).alloc (.cells #[.int .i64 0, .int .i64 0] 30)).alloc (.cells #[.int .i64 0, .int .i64 0] 30)).heap.size = w.heap.size + 1 + 1 + 1 := by simp
  go_enter Tryz.func39, Tryz.ntmps39
  go_wp2_with fail
  obtain ⟨V, hV⟩ : ∃ V, ((w.alloc (.cells #[.int .i64 0, .int .i64 0, .int .i64 0, .int .i64 a, .int .i64 b, .int .i64 c, .int .i64 d, .int .i64 e, .int .i64 f] 25)).alloc (.cells #[.int .i64 0, .int .i64 0] 30)).alloc (.cells #[.int .i64 0, .int .i64 0] 30) = V := ⟨_, rfl⟩
  rw [hV] at HF B1 B2 G0 z0
  try rw [hV]
  clear hV
  have KS : Hid (∀ W, Grew V W → (W.cell? ⟨w.heap.size, 0, none⟩ = some (.int .i64 0) ∧ W.cell? ⟨w.heap.size, 1, none⟩ = some (.int .i64 0) ∧ W.cell? ⟨w.heap.size, 2, none⟩ = some (.int .i64 0) ∧ W.cell? ⟨w.heap.size, 3, none⟩ = some (.int .i64 a) ∧ W.cell? ⟨w.heap.size, 4, none⟩ = some (.int .i64 b) ∧ W.cell? ⟨w.heap.size, 5, none⟩ = some (.int .i64 c) ∧ W.cell? ⟨w.heap.size, 6, none⟩ = some (.int .i64 d) ∧ W.cell? ⟨w.heap.size, 7, none⟩ = some (.int .i64 e) ∧ W.cell? ⟨w.heap.size, 8, none⟩ = some (.int .i64 f))) := Lib.hid (fun W g => HF.out W (g))
  have GA := Grew.refl V
  go_cut [6] from 8 to 20 (fun s wx => ∃ B, s = .pointer (some ⟨B, 0, none⟩) ∧ V.heap.size ≤ B ∧ Hid (Blk wx B #[.int .i64 (FL (a * n)), .int .i64 (FL (c * n))] 30) ∧ Grew V wx)
  case first =>
    go_region_held3 (fun W => W.cell? ⟨w.heap.size, 0, none⟩ = some (.int .i64 0) ∧ W.cell? ⟨w.heap.size, 1, none⟩ = some (.int .i64 0) ∧ W.cell? ⟨w.heap.size, 2, none⟩ = some (.int .i64 0) ∧ W.cell? ⟨w.heap.size, 3, none⟩ = some (.int .i64 a) ∧ W.cell? ⟨w.heap.size, 4, none⟩ = some (.int .i64 b) ∧ W.cell? ⟨w.heap.size, 5, none⟩ = some (.int .i64 c) ∧ W.cell? ⟨w.heap.size, 6, none⟩ = some (.int .i64 d) ∧ W.cell? ⟨w.heap.size, 7, none⟩ = some (.int .i64 e) ∧ W.cell? ⟨w.heap.size, 8, none⟩ = some (.int .i64 f)) (exact KS.out _ (by (repeat' (first | (with_reducible exact Grew.refl _) | (with_reducible assumption) | (with_reducible refine Grew.alloc ?_ _ _) | (with_reducible refine Grew.drew ?_) | (with_reducible refine Grew.drewN ?_ _) | (with_reducible refine Grew.setCell ?_ ?_ _) | go_size))))
      (first
        | (go_at_call 57; refine (DU.out _ _ (by omega)).mono ?_; rintro e w7 ⟨rfl, rfl⟩))
    all_goals (go_wp2_with fail; go_meet)
    all_goals first
      | exact ⟨_, rfl, by first | omega | (simp; done) | (simp; omega) | go_size, Lib.hid (by (repeat' refine Blk.drew ?_); first | exact Blk.new _ _ _ | exact blkN (by first | rfl | assumption | omega) | exact Blk.put2 (by (repeat' refine Blk.drew ?_); first | exact Blk.new _ _ _ | exact blkN (by first | rfl | assumption | omega))), by first | exact (by (repeat' (first | (with_reducible exact Grew.refl _) | (with_reducible assumption) | (with_reducible refine Grew.alloc ?_ _ _) | (with_reducible refine Grew.drew ?_) | (with_reducible refine Grew.drewN ?_ _) | (with_reducible refine Grew.setCell ?_ ?_ _) | go_size))) | exact Grew.put2 (by exact (by (repeat' (first | (with_reducible exact Grew.refl _) | (with_reducible assumption) | (with_reducible refine Grew.alloc ?_ _ _) | (with_reducible refine Grew.drew ?_) | (with_reducible refine Grew.drewN ?_ _) | (with_reducible refine Grew.setCell ?_ ?_ _) | go_size)))) (by omega)⟩
  case rest =>
    clear KS GA
    obtain ⟨B6, rfl, z6, BA, g6⟩ := hcut
    go_wp2_with fail
    have KS : Hid (∀ W, Grew wc W → (W.cell? ⟨w.heap.size, 0, none⟩ = some (.int .i64 0) ∧ W.cell? ⟨w.heap.size, 1, none⟩ = some (.int .i64 0) ∧ W.cell? ⟨w.heap.size, 2, none⟩ = some (.int .i64 0) ∧ W.cell? ⟨w.heap.size, 3, none⟩ = some (.int .i64 a) ∧ W.cell? ⟨w.heap.size, 4, none⟩ = some (.int .i64 b) ∧ W.cell? ⟨w.heap.size, 5, none⟩ = some (.int .i64 c) ∧ W.cell? ⟨w.heap.size, 6, none⟩ = some (.int .i64 d) ∧ W.cell? ⟨w.heap.size, 7, none⟩ = some (.int .i64 e) ∧ W.cell? ⟨w.heap.size, 8, none⟩ = some (.int .i64 f))) := Lib.hid (fun W g => HF.out W (g6.trans g))
    have GA := Grew.refl wc
    go_cut [7] from 21 to 33 (fun s wx => ∃ B, s = .pointer (some ⟨B, 0, none⟩) ∧ wc.heap.size ≤ B ∧ Hid (Blk wx B #[.int .i64 (CE (b * n)), .int .i64 (CE (d * n))] 30) ∧ Grew wc wx)
    case first =>
      go_region_held3 (fun W => W.cell? ⟨w.heap.size, 0, none⟩ = some (.int .i64 0) ∧ W.cell? ⟨w.heap.size, 1, none⟩ = some (.int .i64 0) ∧ W.cell? ⟨w.heap.size, 2, none⟩ = some (.int .i64 0) ∧ W.cell? ⟨w.heap.size, 3, none⟩ = some (.int .i64 a) ∧ W.cell? ⟨w.heap.size, 4, none⟩ = some (.int .i64 b) ∧ W.cell? ⟨w.heap.size, 5, none⟩ = some (.int .i64 c) ∧ W.cell? ⟨w.heap.size, 6, none⟩ = some (.int .i64 d) ∧ W.cell? ⟨w.heap.size, 7, none⟩ = some (.int .i64 e) ∧ W.cell? ⟨w.heap.size, 8, none⟩ = some (.int .i64 f)) (exact KS.out _ (by (repeat' (first | (with_reducible exact Grew.refl _) | (with_reducible assumption) | (with_reducible refine Grew.alloc ?_ _ _) | (with_reducible refine Grew.drew ?_) | (with_reducible refine Grew.drewN ?_ _) | (with_reducible refine Grew.setCell ?_ ?_ _) | go_size))))
        (first
          | (go_at_call 58; refine (UU.out _ _ (by omega)).mono ?_; rintro e w7 ⟨rfl, rfl⟩))
      all_goals (go_wp2_with fail; go_meet)
      all_goals first
        | exact ⟨_, rfl, by first | omega | (simp; done) | (simp; omega) | go_size, Lib.hid (by (repeat' refine Blk.drew ?_); first | exact Blk.new _ _ _ | exact blkN (by first | rfl | assumption | omega) | exact Blk.put2 (by (repeat' refine Blk.drew ?_); first | exact Blk.new _ _ _ | exact blkN (by first | rfl | assumption | omega))), by first | exact (by (repeat' (first | (with_reducible exact Grew.refl _) | (with_reducible assumption) | (with_reducible refine Grew.alloc ?_ _ _) | (with_reducible refine Grew.drew ?_) | (with_reducible refine Grew.drewN ?_ _) | (with_reducible refine Grew.setCell ?_ ?_ _) | go_size))) | exact Grew.put2 (by exact (by (repeat' (first | (with_reducible exact Grew.refl _) | (with_reducible assumption) | (with_reducible refine Grew.alloc ?_ _ _) | (with_reducible refine Grew.drew ?_) | (with_reducible refine Grew.drewN ?_ _) | (with_reducible refine Grew.setCell ?_ ?_ _) | go_size)))) (by omega)⟩
    case rest =>
      clear KS GA DU UU
      obtain ⟨B7, rfl, z7, BB, g7⟩ := hcut
      have BA := Lib.hid (BA.out.grown g7)
      have g8 := g6.trans g7
      have zz := g6.size
      have lA := BA.out.lt
      have lB := BB.out.lt
      have cA0 := blkAt BA.out (i := 0) rfl
      have cA1 := blkAt BA.out (i := 1) rfl
      have cB0 := blkAt BB.out (i := 0) rfl
      have cB1 := blkAt BB.out (i := 1) rfl
      have R1 := B1.out _ g8
      have R2 := B2.out _ g8
      have r10 := blkAt R1 (i := 0) rfl
      have r11 := blkAt R1 (i := 1) rfl
      have r20 := blkAt R2 (i := 0) rfl
      have r21 := blkAt R2 (i := 1) rfl
      have f10 := blkFz R1 (i := 0) (by simp)
      have f11 := blkFz R1 (i := 1) (by simp)
      have f20 := blkFz R2 (i := 0) (by simp)
      have f21 := blkFz R2 (i := 1) (by simp)
      have l1 := R1.lt
      have l2 := R2.lt
      have n1 : ¬ B6 = w.heap.size + 1 := by omega
      have n2 : ¬ B6 = w.heap.size + 1 + 1 := by omega
      have n3 : ¬ B7 = w.heap.size + 1 := by omega
      have n4 : ¬ B7 = w.heap.size + 1 + 1 := by omega
      have n5 : ¬ w.heap.size + 1 = B6 := by omega
      have n6 : ¬ w.heap.size + 1 + 1 = B6 := by omega
      have n7 : ¬ w.heap.size + 1 = B7 := by omega
      have n8 : ¬ w.heap.size + 1 + 1 = B7 := by omega
      have GW := Lib.hid (G0.trans g8)
      clear HF B1 B2 R1 R2 BA BB g8 g7 g6 z6 z7 zz z0 G0
      go_wp2_with fail
      go_region_held3 (fun W => (W.cell? ⟨B6, 0, none⟩ = some (.int .i64 (FL (a * n))) ∧ W.cell? ⟨B6, 1, none⟩ = some (.int .i64 (FL (c * n)))) ∧ (W.cell? ⟨B7, 0, none⟩ = some (.int .i64 (CE (b * n))) ∧ W.cell? ⟨B7, 1, none⟩ = some (.int .i64 (CE (d * n))))) (simp [go_sem, *])
        (first | (fail))
      all_goals
        go_wp2_with fail
        have GW := GW.out
        refine bodyPost_ret (v := .tuple #[.agg #[.int .i64 (FL (a * n)), .int .i64 (FL (c * n))], .agg #[.int .i64 (CE (b * n)), .int .i64 (CE (d * n))]]) (by simp [results, Tryz.results39, go_sem, *]) rfl ⟨rfl, (by (repeat' (first | (with_reducible exact Grew.refl _) | (with_reducible assumption) | (with_reducible refine Grew.alloc ?_ _ _) | (with_reducible refine Grew.drew ?_) | (with_reducible refine Grew.drewN ?_ _) | (with_reducible refine Grew.setCell ?_ ?_ _) | go_size)))⟩
end Td
end Go.Proofs.YtpiajdahmcelnaaGreat
