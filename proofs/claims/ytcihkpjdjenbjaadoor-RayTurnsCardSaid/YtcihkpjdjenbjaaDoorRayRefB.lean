/-
  The reference implementation of layer 9: Lies, Ray, Between, Of; the places of a sector, Sector.
-/
import Derived.RegionTactic
import Derived.ChangeAlike
import Derived.Test.YtcihkpjdjenbjaaDoorRayRefA
import Derived.Test.YtcihkpjdjenbjaaDoorRayLnB
import Derived.Test.YtcihkpjdjenbjaaDoorRayLnD
import Derived.Test.YtcihkpjdjenbjaaDoorHullAro
import Derived.Test.YtcihkpjdjenbjaaDoorHullSm
import Derived.Test.YtcihkpjdjenbjaaDoorHullCon
namespace Go.Proofs.YtcihkpjdjenbjaaDoor
open Go.RowKit Hl Ex
namespace Ry
set_option maxRecDepth 100000

theorem xc_neg (a b : Pt) : xc a b = -(xc b a) := by unfold xc; grind
set_option maxHeartbeats 2000000 in
theorem lies_r (a n : Nat) (v : Pt) (w : World) (ha : a < 64) (hn : n ≤ 31) (hv : Nr v) : Calls Tryd.prog 22 #[.int .i64 a, .int .i64 n, .agg #[.int .i64 v.1, .int .i64 v.2]] w fun e w' => e = .returned (.bool (decide (Lies a n v))) ∧ Grew w w' := by
  have OC : Hid (∀ W, Calls Tryd.prog 33 #[.int .i64 a, .agg #[.int .i64 v.1, .int .i64 v.2]] W fun e w' => e = .returned (.bool (decide (On a v))) ∧ Grew W w') := Lib.hid (fun W => on_r a v W (by omega) hv)
  have LI : Hid (Lies a n v ↔ (On a v ∨ (0 < n ∧ 0 ≤ xc (dir a) v ∧ 0 ≤ xc v (dir (a + n))))) := Lib.hid (by
    unfold Lies sd
    rw [xc_neg v]
    constructor
    · rintro (h | ⟨h1, h2, h3⟩)
      · exact Or.inl h
      · exact Or.inr ⟨h1, h2, by omega⟩
    · rintro (h | ⟨h1, h2, h3⟩)
      · exact Or.inl h
      · exact Or.inr ⟨h1, h2, by omega⟩)
  have kV := Lib.hid (Blk.new w #[.int .i64 v.1, .int .i64 v.2] 23)
  have G0 : Grew w (w.alloc (.cells #[.int .i64 v.1, .int .i64 v.2] 23)) := (Grew.refl w).alloc _ _
  have a0 : (0 : Int) ≤ (a : Int) := by omega
  have a1 : (a : Int) < 64 := by omega
  have n0 : (0 : Int) ≤ (n : Int) := by omega
  have n1 : (n : Int) ≤ 31 := by omega
  by_cases hz : n = 0
  · obtain ⟨r, hr⟩ : ∃ r, decide (Lies a n v) = r := ⟨_, rfl⟩
    rw [hr]
    have OC : Hid (∀ W, Calls Tryd.prog 33 #[.int .i64 a, .agg #[.int .i64 v.1, .int .i64 v.2]] W fun e w' => e = .returned (.bool r) ∧ Grew W w') := Lib.hid (by
      have e : decide (On a v) = r := by
        rw [← hr]
        congr 1
        apply propext
        rw [LI.out]
        exact ⟨fun h => Or.inl h, fun h => h.resolve_right (fun h => by omega)⟩
      rw [← e]
      exact OC.out)
    subst hz
    clear hr LI hv
    go_enter Tryd.func22, Tryd.ntmps22
    go_wp2_with fail
    refine (OC.out _).mono ?_
    rintro e w1 ⟨rfl, g1⟩
    have G1 := Grew.trans G0 g1
    clear g1
    go_wp2_with fail
    go_ret
    exact ⟨rfl, (by (repeat' (first | (with_reducible exact Grew.refl _) | (with_reducible assumption) | (with_reducible refine Grew.alloc ?_ _ _) | (with_reducible refine Grew.drew ?_) | (with_reducible refine Grew.drewN ?_ _) | (with_reducible refine Grew.setCell ?_ ?_ _) | go_size)))⟩
  have hz1 : ((n : Int) == 0) = false := by rw [beq_eq_false_iff_ne]; omega
  have hz2 : ¬ n = 0 := hz
  by_cases ho : On a v
  · rw [decide_eq_true (LI.out.2 (Or.inl ho))]
    rw [decide_eq_true ho] at OC
    clear LI hv ho
    go_enter Tryd.func22, Tryd.ntmps22
    go_wp2_with fail
    refine (OC.out _).mono ?_
    rintro e w1 ⟨rfl, g1⟩
    have G1 := Grew.trans G0 g1
    obtain ⟨⟨c0, c1⟩, _, _⟩ := (kV.out.grown g1).two
    have lV := (kV.out.grown g1).lt
    clear g1
    go_wp2_with fail
    refine (OC.out _).mono ?_
    rintro e w2 ⟨rfl, g2⟩
    have G2 := Grew.trans G1 g2
    clear g2
    go_wp2_with fail
    go_ret
    exact ⟨rfl, (by (repeat' (first | (with_reducible exact Grew.refl _) | (with_reducible assumption) | (with_reducible refine Grew.alloc ?_ _ _) | (with_reducible refine Grew.drew ?_) | (with_reducible refine Grew.drewN ?_ _) | (with_reducible refine Grew.setCell ?_ ?_ _) | go_size)))⟩
  rw [decide_eq_false ho] at OC
  have AC : Hid (∀ (z : Int), 0 ≤ z → z < 128 → ∀ W, Calls Tryd.prog 26 #[.int .i64 z] W fun e w' => e = .returned (.agg #[.int .i64 (dir z.toNat).1, .int .i64 (dir z.toNat).2]) ∧ Grew W w') := Lib.hid (fun z z0 z1 W => by
    have h := at_r z.toNat W (by omega)
    rwa [show ((z.toNat : Nat) : Int) = z by omega] at h)
  have CX : Hid (∀ (p q : Pt) W, Nr p → Nr q → Calls Tryd.prog 43 #[.agg #[.int .i64 p.1, .int .i64 p.2], .agg #[.int .i64 q.1, .int .i64 q.2]] W fun e w' => e = .returned (.int .i64 (xc p q)) ∧ Grew W w') := Lib.hid (fun p q W hp hq => cross_9 p q W hp hq)
  have NV := Lib.hid hv
  by_cases hs : 0 ≤ xc (dir a) v
  · obtain ⟨r, hr⟩ : ∃ r, decide (Lies a n v) = r := ⟨_, rfl⟩
    rw [hr]
    have FIN : Hid (decide (0 ≤ xc v (dir (a + n))) = r) := Lib.hid (by
      rw [← hr]
      congr 1
      apply propext
      rw [LI.out]
      exact ⟨fun h => Or.inr ⟨by omega, hs, h⟩, fun h => by
        rcases h with h | h
        · exact absurd h ho
        · exact h.2.2⟩)
    have DN : Hid (dir ((a : Int) + (n : Int)).toNat = dir (a + n)) := Lib.hid (by rw [show ((a : Int) + (n : Int)).toNat = a + n by omega])
    have W1 : IntKind.i64.wrap ((a : Int) + (n : Int)) = (a : Int) + (n : Int) := IntWalk.i64_in _ ⟨by omega, by omega⟩
    clear hr LI hv ho
    go_enter Tryd.func22, Tryd.ntmps22
    go_wp2_with fail
    refine (OC.out _).mono ?_
    rintro e w1 ⟨rfl, g1⟩
    have G1 := Grew.trans G0 g1
    have kV1 := Lib.hid (kV.out.grown g1)
    obtain ⟨⟨c0, c1⟩, _, _⟩ := kV1.out.two
    have lV := kV1.out.lt
    clear g1 G0
    go_wp2_with fail
    have GG := Grew.refl w1
    go_region_held3 (fun W' => W'.cell? ⟨w.heap.size, 0, none⟩ = some (.int .i64 v.1) ∧ W'.cell? ⟨w.heap.size, 1, none⟩ = some (.int .i64 v.2)) (first | assumption | (simp [go_sem, *]; done))
      (first
        | (go_at_call 26; refine (AC.out _ (by omega) (by omega) _).mono ?_; rintro e w2 ⟨rfl, g⟩; (have GG := Grew.trans (by (repeat' (first | (with_reducible exact GG) | (with_reducible exact Grew.drew GG)))) g); (have kW := kV1.out.grown GG); obtain ⟨⟨c0, c1⟩, _, _⟩ := kW.two)
        | (go_at_call 43; refine (CX.out _ _ _ (by first | exact nr_dir _ | exact NV.out) (by first | exact nr_dir _ | exact NV.out)).mono ?_; rintro e w2 ⟨rfl, g⟩; (have GG := Grew.trans (by (repeat' (first | (with_reducible exact GG) | (with_reducible exact Grew.drew GG)))) g); (have kW := kV1.out.grown GG); obtain ⟨⟨c0, c1⟩, _, _⟩ := kW.two))
    go_wp2_with fail
    go_ret
    have G := Grew.trans G1 GG
    exact ⟨by first | (rw [← FIN.out]; simp [DN.out]; done) | (rw [← FIN.out, ← DN.out]; simp [hs]; done) | (rw [← FIN.out]; simp; done), (by (repeat' (first | (with_reducible exact Grew.refl _) | (with_reducible assumption) | (with_reducible refine Grew.alloc ?_ _ _) | (with_reducible refine Grew.drew ?_) | (with_reducible refine Grew.drewN ?_ _) | (with_reducible refine Grew.setCell ?_ ?_ _) | go_size)))⟩
  · rw [decide_eq_false (fun h => by rcases LI.out.1 h with h | h; exact ho h; exact hs h.2.1)]
    have C1 : Hid (∀ W, Calls Tryd.prog 43 #[.agg #[.int .i64 (dir a).1, .int .i64 (dir a).2], .agg #[.int .i64 v.1, .int .i64 v.2]] W fun e w' => e = .returned (.int .i64 (xc (dir a) v)) ∧ Grew W w') := Lib.hid (fun W => CX.out _ _ W (nr_dir a) NV.out)
    generalize xc (dir a) v = s at hs C1
    have hd : decide (0 ≤ s) = false := decide_eq_false hs
    clear hs
    clear LI hv ho
    go_enter Tryd.func22, Tryd.ntmps22
    go_wp2_with fail
    refine (OC.out _).mono ?_
    rintro e w1 ⟨rfl, g1⟩
    have G1 := Grew.trans G0 g1
    have kV1 := Lib.hid (kV.out.grown g1)
    obtain ⟨⟨c0, c1⟩, _, _⟩ := kV1.out.two
    have lV := kV1.out.lt
    clear g1 G0
    go_wp2_with fail
    refine wp_region_held_drew (S := (fun W' => W'.cell? ⟨w.heap.size, 0, none⟩ = some (.int .i64 v.1) ∧ W'.cell? ⟨w.heap.size, 1, none⟩ = some (.int .i64 v.2))) (by kernel_rfl) (by first | assumption | (simp [go_sem, *]; done)) (fun hHeld => ?_)
    refine wpAnyH_take (i := 0) (oi := ⟨some 17, _, _, _, _, _⟩) (v := ?_) rfl (by kernel_rfl) (by kernel_rfl) (by kernel_rfl) (fun _ _ _ h => h) (Or.inl ⟨by rfl, ?_⟩) (by assumption) ?_
    rotate_left
    · intro w hSw; (try dsimp only at hSw); go_simp; (try with_reducible rfl)
    try simp only [Act.put, List.setIfInBounds_toArray, List.set_cons_zero, List.set_cons_succ]
    refine wpAnyH_take (i := 2) (oi := ⟨some 19, _, _, _, _, _⟩) (v := ?_) rfl (by kernel_rfl) (by kernel_rfl) (by kernel_rfl) (fun _ _ _ h => h) (Or.inl ⟨by rfl, ?_⟩) (by assumption) ?_
    rotate_left
    · intro w hSw; (try dsimp only at hSw); go_simp; (try with_reducible rfl)
    try simp only [Act.put, List.setIfInBounds_toArray, List.set_cons_zero, List.set_cons_succ]
    refine wpAnyH_ready (rs := [1]) (by kernel_rfl) (by simp) ?_
    refine AllReadyH.cons (o := ⟨some 18, _, _, _, _, _⟩) rfl (fun K hK => ?_) AllReadyH.nil
    go_simp
    refine (AC.out _ (by omega) (by omega) _).mono ?_
    rintro e w2 ⟨rfl, g⟩
    have G2 := Grew.trans (Grew.drew (Grew.refl _)) g
    have kW2 := kV1.out.grown G2
    obtain ⟨⟨c0, c1⟩, _, _⟩ := kW2.two
    clear g
    go_wp2_with fail
    refine hK.out _ _ (by (try dsimp only); first | assumption | (simp [go_sem, *]; done)) (fun h1 => ?_)
    clear hK K hHeld
    have hHeld := h1
    clear h1
    try simp only [Act.put, List.setIfInBounds_toArray, List.set_cons_zero, List.set_cons_succ]
    refine wpAnyH_ready (rs := [3]) (by kernel_rfl) (by simp) ?_
    refine AllReadyH.cons (o := ⟨some 20, _, _, _, _, _⟩) rfl (fun K hK => ?_) AllReadyH.nil
    go_simp
    refine (C1.out _).mono ?_
    rintro e w3 ⟨rfl, g⟩
    have G3 := Grew.trans G2 g
    have kW3 := kV1.out.grown G3
    obtain ⟨⟨c0, c1⟩, _, _⟩ := kW3.two
    clear g
    go_wp2_with fail
    refine hK.out _ _ (by (try dsimp only); first | assumption | (simp [go_sem, *]; done)) (fun h1 => ?_)
    clear hK K hHeld
    have hHeld := h1
    clear h1
    try simp only [Act.put, List.setIfInBounds_toArray, List.set_cons_zero, List.set_cons_succ]
    refine wpAnyH_take (i := 4) (oi := ⟨some 21, _, _, _, _, _⟩) (v := ?_) rfl (by kernel_rfl) (by kernel_rfl) (by kernel_rfl) (fun _ _ _ h => h) (Or.inl ⟨by rfl, ?_⟩) (by assumption) ?_
    rotate_left
    · intro w hSw; (try dsimp only at hSw); go_simp; (try with_reducible rfl)
    try simp only [Act.put, List.setIfInBounds_toArray, List.set_cons_zero, List.set_cons_succ]
    refine wpAnyH_take (i := 5) (oi := ⟨some 22, _, _, _, _, _⟩) (v := ?_) rfl (by kernel_rfl) (by kernel_rfl) (by kernel_rfl) (fun _ _ _ h => h) (Or.inl ⟨by rfl, ?_⟩) (by assumption) ?_
    rotate_left
    · intro w hSw; (try dsimp only at hSw); go_simp; (try with_reducible rfl)
    try simp only [Act.put, List.setIfInBounds_toArray, List.set_cons_zero, List.set_cons_succ]
    refine wpAnyH_take (i := 6) (oi := ⟨some 23, _, _, _, _, _⟩) (v := undef) rfl (by kernel_rfl) (by kernel_rfl) (by kernel_rfl) (fun _ _ _ h => h) (Or.inr ⟨by rfl, rfl⟩) (by assumption) ?_
    try simp only [Act.put, List.setIfInBounds_toArray, List.set_cons_zero, List.set_cons_succ]
    refine wpAnyH_take (i := 7) (oi := ⟨some 24, _, _, _, _, _⟩) (v := undef) rfl (by kernel_rfl) (by kernel_rfl) (by kernel_rfl) (fun _ _ _ h => h) (Or.inr ⟨by rfl, rfl⟩) (by assumption) ?_
    try simp only [Act.put, List.setIfInBounds_toArray, List.set_cons_zero, List.set_cons_succ]
    refine wpAnyH_take (i := 8) (oi := ⟨some 25, _, _, _, _, _⟩) (v := undef) rfl (by kernel_rfl) (by kernel_rfl) (by kernel_rfl) (fun _ _ _ h => h) (Or.inr ⟨by rfl, rfl⟩) (by assumption) ?_
    try simp only [Act.put, List.setIfInBounds_toArray, List.set_cons_zero, List.set_cons_succ]
    refine wpAnyH_take (i := 9) (oi := ⟨some 26, _, _, _, _, _⟩) (v := undef) rfl (by kernel_rfl) (by kernel_rfl) (by kernel_rfl) (fun _ _ _ h => h) (Or.inr ⟨by rfl, rfl⟩) (by assumption) ?_
    try simp only [Act.put, List.setIfInBounds_toArray, List.set_cons_zero, List.set_cons_succ]
    refine wpAnyH_take (i := 10) (oi := ⟨some 27, _, _, _, _, _⟩) (v := undef) rfl (by kernel_rfl) (by kernel_rfl) (by kernel_rfl) (fun _ _ _ h => h) (Or.inr ⟨by rfl, rfl⟩) (by assumption) ?_
    try simp only [Act.put, List.setIfInBounds_toArray, List.set_cons_zero, List.set_cons_succ]
    refine wpAnyH_take (i := 11) (oi := ⟨some 28, _, _, _, _, _⟩) (v := undef) rfl (by kernel_rfl) (by kernel_rfl) (by kernel_rfl) (fun _ _ _ h => h) (Or.inr ⟨by rfl, rfl⟩) (by assumption) ?_
    try simp only [Act.put, List.setIfInBounds_toArray, List.set_cons_zero, List.set_cons_succ]
    refine wpAnyH_take (i := 12) (oi := ⟨some 29, _, _, _, _, _⟩) (v := undef) rfl (by kernel_rfl) (by kernel_rfl) (by kernel_rfl) (fun _ _ _ h => h) (Or.inr ⟨by rfl, rfl⟩) (by assumption) ?_
    try simp only [Act.put, List.setIfInBounds_toArray, List.set_cons_zero, List.set_cons_succ]
    refine wpAnyH_take (i := 13) (oi := ⟨some 30, _, _, _, _, _⟩) (v := ?_) rfl (by kernel_rfl) (by kernel_rfl) (by kernel_rfl) (fun _ _ _ h => h) (Or.inl ⟨by rfl, ?_⟩) (by assumption) ?_
    rotate_left
    · intro w hSw; (try dsimp only at hSw); go_simp; (try with_reducible rfl)
    try simp only [Act.put, List.setIfInBounds_toArray, List.set_cons_zero, List.set_cons_succ]
    refine wpAnyH_take (i := 14) (oi := ⟨some 6, _, _, _, _, _⟩) (v := ?_) rfl (by kernel_rfl) (by kernel_rfl) (by kernel_rfl) (fun _ _ _ h => h) (Or.inl ⟨by rfl, ?_⟩) (by assumption) ?_
    rotate_left
    · intro w hSw; (try dsimp only at hSw); go_simp; (try with_reducible rfl)
    try simp only [Act.put, List.setIfInBounds_toArray, List.set_cons_zero, List.set_cons_succ]
    refine wpAnyH_done (by kernel_rfl) ?_ _
    go_wp2_with fail
    go_ret
    have G := Grew.trans G1 G3
    exact ⟨by first | rfl | (simp; done), (by (repeat' (first | (with_reducible exact Grew.refl _) | (with_reducible assumption) | (with_reducible refine Grew.alloc ?_ _ _) | (with_reducible refine Grew.drew ?_) | (with_reducible refine Grew.drewN ?_ _) | (with_reducible refine Grew.setCell ?_ ?_ _) | go_size)))⟩
theorem right_yes (a n : Int) (w : World) (h : (0 ≤ a ∧ a < 64) ∧ 0 ≤ n ∧ n ≤ 31) : Calls Tryd.prog 31 #[.int .i64 a, .int .i64 n] w fun e w' => e = .returned (.bool true) ∧ w = w' := by
  obtain ⟨⟨h0, h1⟩, h2, h3⟩ := h
  go_enter Tryd.func31, Tryd.ntmps31
  go_wp2_with fail
  go_ret
  exact ⟨by first | rfl | (simp; omega), rfl⟩
theorem right_no (a n : Int) (w : World) (h : ¬ ((0 ≤ a ∧ a < 64) ∧ 0 ≤ n ∧ n ≤ 31)) : Calls Tryd.prog 31 #[.int .i64 a, .int .i64 n] w fun e w' => e = .returned (.bool false) ∧ w = w' := by
  by_cases h0 : 0 ≤ a
  · by_cases h1 : a < 64
    · by_cases h2 : 0 ≤ n
      · have h3 : ¬ n ≤ 31 := fun h3 => h ⟨⟨h0, h1⟩, h2, h3⟩
        clear h
        go_enter Tryd.func31, Tryd.ntmps31
        go_wp2_with fail
        go_ret
        exact ⟨by first | rfl | (simp; omega), rfl⟩
      · clear h
        go_enter Tryd.func31, Tryd.ntmps31
        go_wp2_with fail
        go_ret
        exact ⟨by first | rfl | (simp; omega), rfl⟩
    · clear h
      go_enter Tryd.func31, Tryd.ntmps31
      go_wp2_with fail
      go_ret
      exact ⟨by first | rfl | (simp; omega), rfl⟩
  · clear h
    go_enter Tryd.func31, Tryd.ntmps31
    go_wp2_with fail
    go_ret
    exact ⟨by first | rfl | (simp; omega), rfl⟩
theorem r_ray_ok (k : Nat) (w : World) (hk : k < 64) : Calls Tryd.prog 11 #[.int .i64 k] w fun e w' => e = .returned (.tuple #[.agg #[.int .i64 (dir k).1, .int .i64 (dir k).2], .int .i64 0]) ∧ Grew w w' := by
  have AC : Hid (∀ W, Calls Tryd.prog 26 #[.int .i64 k] W fun e w' => e = .returned (.agg #[.int .i64 (dir k).1, .int .i64 (dir k).2]) ∧ Grew W w') := Lib.hid (fun W => at_r k W (by omega))
  have k0 : (0 : Int) ≤ (k : Int) := by omega
  have k1 : (k : Int) < 64 := by omega
  have k2 : ¬ (64 : Int) ≤ (k : Int) := by omega
  have kA := Lib.hid (Blk.new w #[.int .i64 0, .int .i64 0] 23)
  have G0 : Grew w (w.alloc (.cells #[.int .i64 0, .int .i64 0] 23)) := (Grew.refl w).alloc _ _
  go_enter Tryd.func11, Tryd.ntmps11
  go_wp2_with fail
  refine (AC.out _).mono ?_
  rintro e w1 ⟨rfl, g⟩
  have G2 := Lib.hid (G0.trans g)
  obtain ⟨⟨a0, a1⟩, a2, a3⟩ := (kA.out.grown g).two
  have lA := (kA.out.grown g).lt
  clear g G0
  go_wp2_with fail
  have G := G2.out
  exact bodyPost_ret (v := .tuple #[.agg #[.int .i64 (dir k).1, .int .i64 (dir k).2], .int .i64 0]) (by simp [results, Tryd.results11, go_sem, *]) rfl ⟨rfl, (by (repeat' (first | (with_reducible exact Grew.refl _) | (with_reducible assumption) | (with_reducible refine Grew.alloc ?_ _ _) | (with_reducible refine Grew.drew ?_) | (with_reducible refine Grew.drewN ?_ _) | (with_reducible refine Grew.setCell ?_ ?_ _) | go_size)))⟩
theorem r_ray_bad (k : Int) (w : World) (hk : ¬ (0 ≤ k ∧ k < 64)) : Calls Tryd.prog 11 #[.int .i64 k] w fun e w' => e = .returned (.tuple #[.agg #[.int .i64 0, .int .i64 0], .int .i64 1]) ∧ Grew w w' := by
  by_cases h0 : k < 0
  · clear hk
    go_enter Tryd.func11, Tryd.ntmps11
    go_wp2_with fail
    exact bodyPost_ret (v := .tuple #[.agg #[.int .i64 0, .int .i64 0], .int .i64 1]) (by simp [results, Tryd.results11, go_sem]) rfl ⟨rfl, (by (repeat' (first | (with_reducible exact Grew.refl _) | (with_reducible assumption) | (with_reducible refine Grew.alloc ?_ _ _) | (with_reducible refine Grew.drew ?_) | (with_reducible refine Grew.drewN ?_ _) | (with_reducible refine Grew.setCell ?_ ?_ _) | go_size)))⟩
  · have h1 : (64 : Int) ≤ k := by omega
    clear hk
    go_enter Tryd.func11, Tryd.ntmps11
    go_wp2_with fail
    exact bodyPost_ret (v := .tuple #[.agg #[.int .i64 0, .int .i64 0], .int .i64 1]) (by simp [results, Tryd.results11, go_sem]) rfl ⟨rfl, (by (repeat' (first | (with_reducible exact Grew.refl _) | (with_reducible assumption) | (with_reducible refine Grew.alloc ?_ _ _) | (with_reducible refine Grew.drew ?_) | (with_reducible refine Grew.drewN ?_ _) | (with_reducible refine Grew.setCell ?_ ?_ _) | go_size)))⟩
theorem r_between_ok (a n : Nat) (v : Pt) (w : World) (ha : a < 64) (hn : n ≤ 31) (hv : Vec v) : Calls Tryd.prog 13 #[.int .i64 a, .int .i64 n, .agg #[.int .i64 v.1, .int .i64 v.2]] w fun e w' => e = .returned (.tuple #[.bool (decide (Lies a n v)), .int .i64 0]) ∧ Grew w w' := by
  have RC : Hid (∀ W, Calls Tryd.prog 31 #[.int .i64 a, .int .i64 n] W fun e w' => e = .returned (.bool true) ∧ W = w') := Lib.hid (fun W => right_yes _ _ W (by omega))
  have VC : Hid (∀ W, Calls Tryd.prog 32 #[.agg #[.int .i64 v.1, .int .i64 v.2]] W fun e w' => e = .returned (.bool true) ∧ Grew W w') := Lib.hid (fun W => vector_yes v W hv)
  have LC : Hid (∀ W, Calls Tryd.prog 22 #[.int .i64 a, .int .i64 n, .agg #[.int .i64 v.1, .int .i64 v.2]] W fun e w' => e = .returned (.bool (decide (Lies a n v))) ∧ Grew W w') := Lib.hid (fun W => lies_r a n v W ha hn hv.1)
  have kV := Lib.hid (Blk.new w #[.int .i64 v.1, .int .i64 v.2] 23)
  have G0 : Grew w (w.alloc (.cells #[.int .i64 v.1, .int .i64 v.2] 23)) := (Grew.refl w).alloc _ _
  obtain ⟨r, hr⟩ : ∃ r, decide (Lies a n v) = r := ⟨_, rfl⟩
  rw [hr] at LC ⊢
  clear hr ha hn hv
  go_enter Tryd.func13, Tryd.ntmps13
  go_wp2_with fail
  refine (RC.out _).mono ?_
  rintro e w1 ⟨rfl, rfl⟩
  go_wp2_with fail
  refine (VC.out _).mono ?_
  rintro e w1 ⟨rfl, g1⟩
  have G1 := Grew.trans G0 g1
  obtain ⟨⟨c0, c1⟩, _, _⟩ := (kV.out.grown g1).two
  have lV := (kV.out.grown g1).lt
  clear g1
  go_wp2_with fail
  refine (LC.out _).mono ?_
  rintro e w2 ⟨rfl, g2⟩
  have G2 := Grew.trans G1 g2
  clear g2
  go_wp2_with fail
  go_ret2
  exact ⟨rfl, (by (repeat' (first | (with_reducible exact Grew.refl _) | (with_reducible assumption) | (with_reducible refine Grew.alloc ?_ _ _) | (with_reducible refine Grew.drew ?_) | (with_reducible refine Grew.drewN ?_ _) | (with_reducible refine Grew.setCell ?_ ?_ _) | go_size)))⟩
theorem r_between_bad (a n : Int) (v : Pt) (w : World) (h : ¬ ((0 ≤ a ∧ a < 64) ∧ (0 ≤ n ∧ n ≤ 31) ∧ Vec v)) : Calls Tryd.prog 13 #[.int .i64 a, .int .i64 n, .agg #[.int .i64 v.1, .int .i64 v.2]] w fun e w' => e = .returned (.tuple #[.bool false, .int .i64 1]) ∧ Grew w w' := by
  have G0 : Grew w (w.alloc (.cells #[.int .i64 v.1, .int .i64 v.2] 23)) := (Grew.refl w).alloc _ _
  by_cases hr : (0 ≤ a ∧ a < 64) ∧ 0 ≤ n ∧ n ≤ 31
  · have RC : Hid (∀ W, Calls Tryd.prog 31 #[.int .i64 a, .int .i64 n] W fun e w' => e = .returned (.bool true) ∧ W = w') := Lib.hid (fun W => right_yes _ _ W hr)
    have VC : Hid (∀ W, Calls Tryd.prog 32 #[.agg #[.int .i64 v.1, .int .i64 v.2]] W fun e w' => e = .returned (.bool false) ∧ Grew W w') := Lib.hid (fun W => vector_no v W (fun hv => h ⟨hr.1, hr.2, hv⟩))
    clear h hr
    go_enter Tryd.func13, Tryd.ntmps13
    go_wp2_with fail
    refine (RC.out _).mono ?_
    rintro e w1 ⟨rfl, rfl⟩
    go_wp2_with fail
    refine (VC.out _).mono ?_
    rintro e w1 ⟨rfl, g1⟩
    have G1 := Grew.trans G0 g1
    clear g1
    go_wp2_with fail
    go_ret2
    exact ⟨rfl, (by (repeat' (first | (with_reducible exact Grew.refl _) | (with_reducible assumption) | (with_reducible refine Grew.alloc ?_ _ _) | (with_reducible refine Grew.drew ?_) | (with_reducible refine Grew.drewN ?_ _) | (with_reducible refine Grew.setCell ?_ ?_ _) | go_size)))⟩
  · have RC : Hid (∀ W, Calls Tryd.prog 31 #[.int .i64 a, .int .i64 n] W fun e w' => e = .returned (.bool false) ∧ W = w') := Lib.hid (fun W => right_no _ _ W hr)
    clear h hr
    go_enter Tryd.func13, Tryd.ntmps13
    go_wp2_with fail
    refine (RC.out _).mono ?_
    rintro e w1 ⟨rfl, rfl⟩
    go_wp2_with fail
    go_ret2
    exact ⟨rfl, (by (repeat' (first | (with_reducible exact Grew.refl _) | (with_reducible assumption) | (with_reducible refine Grew.alloc ?_ _ _) | (with_reducible refine Grew.drew ?_) | (with_reducible refine Grew.drewN ?_ _) | (with_reducible refine Grew.setCell ?_ ?_ _) | go_size)))⟩
theorem r_of_bad (v : Pt) (w : World) (h : ¬ Vec v) : Calls Tryd.prog 15 #[.agg #[.int .i64 v.1, .int .i64 v.2]] w fun e w' => e = .returned (.tuple #[.int .i64 0, .bool false, .int .i64 1]) ∧ Grew w w' := by
  have G0 : Grew w (w.alloc (.cells #[.int .i64 v.1, .int .i64 v.2] 23)) := (Grew.refl w).alloc _ _
  have VC : Hid (∀ W, Calls Tryd.prog 32 #[.agg #[.int .i64 v.1, .int .i64 v.2]] W fun e w' => e = .returned (.bool false) ∧ Grew W w') := Lib.hid (fun W => vector_no v W h)
  clear h
  go_enter Tryd.func15, Tryd.ntmps15
  go_wp2_with fail
  refine (VC.out _).mono ?_
  rintro e w1 ⟨rfl, g1⟩
  have G1 := Grew.trans G0 g1
  clear g1
  go_wp2_with fail
  go_ret3
  exact ⟨rfl, (by (repeat' (first | (with_reducible exact Grew.refl _) | (with_reducible assumption) | (with_reducible refine Grew.alloc ?_ _ _) | (with_reducible refine Grew.drew ?_) | (with_reducible refine Grew.drewN ?_ _) | (with_reducible refine Grew.setCell ?_ ?_ _) | go_size)))⟩
/-- Which vectors lie between a ray and the next one, and not on this. -/
theorem Fd.next_iff {v : Pt} {k : Nat} (f : Fd v k) {j : Nat} (hj : j < 64) : (Lies j 1 v ∧ ¬ On (j + 1) v) ↔ j = k := by
  have hk := f.lt
  rw [f.lies_iff hj (by decide), f.on_iff (by omega)]
  have e : (k + 128 - (j + 1)) % 64 = ((k + 64 - j) % 64 + 63) % 64 := by omega
  rw [e]
  constructor
  · rintro ⟨h1, h2⟩
    rcases h1 with h1 | ⟨h1, hz⟩
    · omega
    · exact absurd ⟨by omega, hz⟩ h2
  · rintro rfl
    exact ⟨Or.inl (by omega), fun h => by omega⟩
set_option maxHeartbeats 2000000 in
theorem r_of_ok (v : Pt) (w : World) (hv : Vec v) : Calls Tryd.prog 15 #[.agg #[.int .i64 v.1, .int .i64 v.2]] w fun e w' => e = .returned (.tuple #[.int .i64 (kf v), .bool (decide (On (kf v) v)), .int .i64 0]) ∧ Grew w w' := by
  have F := kf_fd hv.2
  obtain ⟨K, hK⟩ : ∃ K, kf v = K := ⟨_, rfl⟩
  rw [hK] at F ⊢
  have VC : Hid (∀ W, Calls Tryd.prog 32 #[.agg #[.int .i64 v.1, .int .i64 v.2]] W fun e w' => e = .returned (.bool true) ∧ Grew W w') := Lib.hid (fun W => vector_yes v W hv)
  have LC : Hid (∀ (t : Nat) W, t < 64 → Calls Tryd.prog 22 #[.int .i64 t, .int .i64 1, .agg #[.int .i64 v.1, .int .i64 v.2]] W fun e w' => e = .returned (.bool (decide (Lies t 1 v))) ∧ Grew W w') := Lib.hid (fun t W ht => lies_r t 1 v W ht (by decide) hv.1)
  have OC : Hid (∀ (t : Nat) W, t < 64 → Calls Tryd.prog 33 #[.int .i64 ((t : Int) + 1), .agg #[.int .i64 v.1, .int .i64 v.2]] W fun e w' => e = .returned (.bool (decide (On (t + 1) v))) ∧ Grew W w') := Lib.hid (fun t W ht => on_r (t + 1) v W (by omega) hv.1)
  have OK : Hid (∀ W, Calls Tryd.prog 33 #[.int .i64 K, .agg #[.int .i64 v.1, .int .i64 v.2]] W fun e w' => e = .returned (.bool (decide (On K v))) ∧ Grew W w') := Lib.hid (fun W => on_r K v W (by have := F.lt; omega) hv.1)
  have NX : Hid (∀ t, t < 64 → ((Lies t 1 v ∧ ¬ On (t + 1) v) ↔ t = K)) := Lib.hid (fun t ht => F.next_iff ht)
  have k64 := F.lt
  obtain ⟨r, hr⟩ : ∃ r, decide (On K v) = r := ⟨_, rfl⟩
  rw [hr] at OK ⊢
  have kV := Lib.hid (Blk.new w #[.int .i64 v.1, .int .i64 v.2] 23)
  have G0 : Grew w (w.alloc (.cells #[.int .i64 v.1, .int .i64 v.2] 23)) := (Grew.refl w).alloc _ _
  clear hr hv hK F
  go_enter Tryd.func15, Tryd.ntmps15
  go_wp2_with fail
  refine (VC.out _).mono ?_
  rintro e w1 ⟨rfl, g1⟩
  have G1 := Grew.trans G0 g1
  have kB := kV.out.grown g1
  clear g1
  go_wp2_with fail
  go_loopw [5] (fun i wr => ∃ t : Nat, t ≤ K ∧ i = .int .i64 t ∧ Hid (Blk wr w.heap.size #[.int .i64 v.1, .int .i64 v.2] 23 ∧ Grew w wr)) (fun i _ => K - (intOf i).toNat)
  case atStart => exact ⟨0, Nat.zero_le _, rfl, Lib.hid ⟨kB, G1⟩⟩
  case round =>
    clear kB G1
    obtain ⟨t, ht, rfl, HH⟩ := hrel
    have t0 : (0 : Int) ≤ (t : Int) := by omega
    have t1 : (t : Int) < 64 := by omega
    have T1 : Hid (t < 64) := Lib.hid (by omega)
    obtain ⟨⟨c0, c1⟩, _, _⟩ := HH.out.1.two
    have lV := HH.out.1.lt
    have LT := Lib.hid (LC.out t)
    have OT := Lib.hid (OC.out t)
    by_cases hlt : t < K
    · by_cases hl : Lies t 1 v
      · have ho : On (t + 1) v := by
          by_cases ho : On (t + 1) v
          · exact ho
          · have := (NX.out t T1.out).1 ⟨hl, ho⟩
            omega
        rw [decide_eq_true hl] at LT
        rw [decide_eq_true ho] at OT
        clear hl ho
        go_wp2_with fail
        refine (LT.out _ T1.out).mono ?_
        rintro e w2 ⟨rfl, g2⟩
        have H2 := Lib.hid (And.intro (HH.out.1.grown g2) (HH.out.2.trans g2))
        clear c0 c1 lV g2
        obtain ⟨⟨c0, c1⟩, _, _⟩ := H2.out.1.two
        have lV := H2.out.1.lt
        go_wp2_with fail
        refine (OT.out _ T1.out).mono ?_
        rintro e w3 ⟨rfl, g3⟩
        have H3 := Lib.hid (And.intro (H2.out.1.grown g3) (H2.out.2.trans g3))
        clear c0 c1 lV g3
        go_wp2_with fail
        go_roundw
        case rel => exact ⟨t + 1, by omega, by go_num, H3⟩
        case measure => simp [intOf]; omega
      · rw [decide_eq_false hl] at LT
        clear hl
        go_wp2_with fail
        refine (LT.out _ T1.out).mono ?_
        rintro e w2 ⟨rfl, g2⟩
        have H2 := Lib.hid (And.intro (HH.out.1.grown g2) (HH.out.2.trans g2))
        clear c0 c1 lV g2
        go_wp2_with fail
        go_roundw
        case rel => exact ⟨t + 1, by omega, by go_num, H2⟩
        case measure => simp [intOf]; omega
    · obtain rfl : t = K := by omega
      obtain ⟨hl, ho⟩ := (NX.out t T1.out).2 rfl
      rw [decide_eq_true hl] at LT
      rw [decide_eq_false ho] at OT
      clear hl ho hlt
      go_wp2_with fail
      refine (LT.out _ T1.out).mono ?_
      rintro e w2 ⟨rfl, g2⟩
      have H2 := Lib.hid (And.intro (HH.out.1.grown g2) (HH.out.2.trans g2))
      clear c0 c1 lV g2
      obtain ⟨⟨c0, c1⟩, _, _⟩ := H2.out.1.two
      have lV := H2.out.1.lt
      go_wp2_with fail
      refine (OT.out _ T1.out).mono ?_
      rintro e w3 ⟨rfl, g3⟩
      have H3 := Lib.hid (And.intro (H2.out.1.grown g3) (H2.out.2.trans g3))
      clear c0 c1 lV g3
      obtain ⟨⟨c0, c1⟩, _, _⟩ := H3.out.1.two
      have lV := H3.out.1.lt
      go_wp2_with fail
      refine (OK.out _).mono ?_
      rintro e w4 ⟨rfl, g4⟩
      have G4 := H3.out.2.trans g4
      clear g4
      go_wp2_with fail
      go_ret3
      exact ⟨rfl, (by (repeat' (first | (with_reducible exact Grew.refl _) | (with_reducible assumption) | (with_reducible refine Grew.alloc ?_ _ _) | (with_reducible refine Grew.drew ?_) | (with_reducible refine Grew.drewN ?_ _) | (with_reducible refine Grew.setCell ?_ ?_ _) | go_size)))⟩
end Ry
end Go.Proofs.YtcihkpjdjenbjaaDoor
