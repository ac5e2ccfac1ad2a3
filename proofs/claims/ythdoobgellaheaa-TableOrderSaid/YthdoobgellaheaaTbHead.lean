/-
  The helpers of the laws of layer 12: the example of the chapter, usable, same.
-/
import Derived.Test.YthdoobgellaheaaTbC
import Derived.Test.YthdoobgellaheaaTbR
namespace Go.Proofs.Ythdoobgellaheaa
open Go.RowKit Wd
namespace Tb
set_option maxRecDepth 100000

def hA : Rw := ⟨0, 100, 10, 60, 5, 0⟩
def hB : Rw := ⟨-50, 200, 1000, 3600, 20, 1⟩
theorem ex1 : An [hA, hB] 20 10 60 = (5, 0, 0) := by decide
theorem ex2 : An [hA, hB] 20 11 60 = (20, 1, 0) := by decide
theorem ex3 : An [hA, hB] 201 0 0 = (0, 0, 4) := by decide
theorem ex4 : An [hA, hB] 1001 0 0 = (0, 0, 1) := by decide
theorem ex5 : decide (Tbl [hA, hB]) = true := by decide
theorem ex6 : decide (Tbl [⟨0, 0, 0, 0, 0, 9⟩]) = false := by decide
set_option maxHeartbeats 4000000 in
theorem head_true (w : World) : Calls Try.prog 10 #[] w fun e w' => e = .returned (.bool true) ∧ Grew w w' := by
  have E1 : Hid (∀ W u, Rs W u [hA, hB] → Calls Try.prog 11 #[u, .int .i64 20, .int .i64 10, .int .i64 60] W fun e w' => e = .returned (.tuple #[.int .i64 5, .int .i64 0, .int .i64 0]) ∧ Grew W w') := Lib.hid (fun W u h => by have := find_c _ 20 10 60 u W h (by decide); rwa [ex1] at this)
  have E2 : Hid (∀ W u, Rs W u [hA, hB] → Calls Try.prog 11 #[u, .int .i64 20, .int .i64 11, .int .i64 60] W fun e w' => e = .returned (.tuple #[.int .i64 20, .int .i64 1, .int .i64 0]) ∧ Grew W w') := Lib.hid (fun W u h => by have := find_c _ 20 11 60 u W h (by decide); rwa [ex2] at this)
  have E3 : Hid (∀ W u, Rs W u [hA, hB] → Calls Try.prog 11 #[u, .int .i64 201, .int .i64 0, .int .i64 0] W fun e w' => e = .returned (.tuple #[.int .i64 0, .int .i64 0, .int .i64 4]) ∧ Grew W w') := Lib.hid (fun W u h => by have := find_c _ 201 0 0 u W h (by decide); rwa [ex3] at this)
  have E4 : Hid (∀ W u, Rs W u [hA, hB] → Calls Try.prog 11 #[u, .int .i64 1001, .int .i64 0, .int .i64 0] W fun e w' => e = .returned (.tuple #[.int .i64 0, .int .i64 0, .int .i64 1]) ∧ Grew W w') := Lib.hid (fun W u h => by have := find_c _ 1001 0 0 u W h (by decide); rwa [ex4] at this)
  have E5 : Hid (∀ W u, Rs W u [hA, hB] → Calls Try.prog 13 #[u] W fun e w' => e = .returned (.bool true) ∧ Grew W w') := Lib.hid (fun W u h => by have := valid_c _ u W h (by decide); rwa [ex5] at this)
  have E6 : Hid (∀ W u, Rs W u [⟨0, 0, 0, 0, 0, 9⟩] → Calls Try.prog 13 #[u] W fun e w' => e = .returned (.bool false) ∧ Grew W w') := Lib.hid (fun W u h => by have := valid_c _ u W h (by decide); rwa [ex6] at this)
  have I0 : Hid (Rs (w.alloc (.cells #[.int .i64 0, .int .i64 100, .int .i64 10, .int .i64 60, .int .i64 5, .int .i64 0, .int .i64 (-50), .int .i64 200, .int .i64 1000, .int .i64 3600, .int .i64 20, .int .i64 1] 32)) (.slice (some ⟨w.heap.size, 0, none⟩) 2 2) [hA, hB]) := Lib.hid (rs_new w [hA, hB] (by decide))
  have I6 : Hid (∀ W : World, Rs (W.alloc (.cells #[.int .i64 0, .int .i64 0, .int .i64 0, .int .i64 0, .int .i64 0, .int .i64 9] 32)) (.slice (some ⟨W.heap.size, 0, none⟩) 1 1) [⟨0, 0, 0, 0, 0, 9⟩]) := Lib.hid (fun W => rs_new W [⟨0, 0, 0, 0, 0, 9⟩] (by decide))
  have g0 := (Grew.refl w).alloc #[.int .i64 0, .int .i64 100, .int .i64 10, .int .i64 60, .int .i64 5, .int .i64 0, .int .i64 (-50), .int .i64 200, .int .i64 1000, .int .i64 3600, .int .i64 20, .int .i64 1] 32
  go_enter Try.func10, Try.ntmps10
  go_wp2_with fail
  refine (E1.out _ _ I0.out).mono ?_
  rintro e w1 ⟨rfl, g1⟩
  have I1 := Lib.hid (I0.out.grew g1)
  have G1 := g0.trans g1
  clear g0 g1 I0
  go_wp2_with fail
  refine (E2.out _ _ I1.out).mono ?_
  rintro e w2 ⟨rfl, g2⟩
  have I2 := Lib.hid (I1.out.grew g2)
  have G2 := G1.trans g2
  clear G1 g2 I1
  go_wp2_with fail
  refine (E3.out _ _ I2.out).mono ?_
  rintro e w3 ⟨rfl, g3⟩
  have I3 := Lib.hid (I2.out.grew g3)
  have G3 := G2.trans g3
  clear G2 g3 I2
  go_wp2_with fail
  refine (E4.out _ _ I3.out).mono ?_
  rintro e w4 ⟨rfl, g4⟩
  have I4 := Lib.hid (I3.out.grew g4)
  have G4 := G3.trans g4
  clear G3 g4 I3
  go_wp2_with fail
  refine (E5.out _ _ I4.out).mono ?_
  rintro e w5 ⟨rfl, g5⟩
  have G5 := G4.trans g5
  clear G4 g5 I4
  go_wp2_with fail
  refine (E6.out _ _ (I6.out _)).mono ?_
  rintro e w6 ⟨rfl, g6⟩
  have G6 := (G5.alloc _ _).trans g6
  clear G5 g6
  go_wp2_with fail
  go_ret
  exact ⟨rfl, G6⟩
theorem usable_c (l : List Rw) (t a s : Int) (v : Value) (w : World) (hs : Rs w v l) : Calls Try.prog 15 #[v, .int .i64 t, .int .i64 a, .int .i64 s] w fun e w' => e = .returned (.bool (decide (Tbl l ∧ Us t a s))) ∧ Grew w w' := by
  have VC := Lib.hid (R.valid_c l v w hs)
  have UC := Lib.hid (use_c t a s)
  rw [Bool.decide_and]
  obtain ⟨sa, sc, rfl, _⟩ := hs.shape
  clear hs
  generalize l.length = n at *
  generalize decide (Tbl l) = q at *
  cases q
  · go_enter Try.func15, Try.ntmps15
    go_wp2_with fail
    refine VC.out.mono ?_
    rintro e w1 ⟨rfl, g1⟩
    go_wp2_with fail
    go_ret
    exact ⟨rfl, g1⟩
  · generalize decide (Us t a s) = r at *
    go_enter Try.func15, Try.ntmps15
    go_wp2_with fail
    refine VC.out.mono ?_
    rintro e w1 ⟨rfl, g1⟩
    go_wp2_with fail
    refine (UC.out _).mono ?_
    rintro e w2 ⟨rfl, rfl⟩
    go_wp2_with fail
    go_ret
    exact ⟨rfl, g1⟩
set_option maxHeartbeats 2000000 in
theorem same_c (k l : List Rw) (t a s : Int) (u v : Value) (w : World) (hk : Rs w u k) (hs : Rs w v l) (h1 : Tbl k) (h2 : Tbl l) (h3 : Us t a s) (h : sy t a s k = sy t a s l) :
    Calls Try.prog 16 #[u, v, .int .i64 t, .int .i64 a, .int .i64 s] w fun e w' => e = .returned (.bool true) ∧ Grew w w' := by
  obtain ⟨ha, hc⟩ := An_sy h1 h2 h3 h
  have F1 := find_c k t a s u w hk (by have := h1.1; omega)
  have F2 : ∀ W, Grew w W → _ := fun W g => find_c l t a s v W (hs.grew g) (by have := h2.1; omega)
  rw [← ha] at F2
  have X1 := Lib.hid F1
  have X2 := Lib.hid F2
  clear F1 F2 hk hs ha h h1 h2 h3
  generalize An k t a s = A at *
  obtain ⟨p, q, e⟩ := A
  have hd : e = 0 ∨ e = 4 := hc
  clear hc
  rcases hd with rfl | rfl
  · go_enter Try.func16, Try.ntmps16
    go_wp2_with fail
    refine X1.out.mono ?_
    rintro e w1 ⟨rfl, g1⟩
    go_wp2_with fail
    refine (X2.out _ g1).mono ?_
    rintro e w2 ⟨rfl, g2⟩
    have G2 := g1.trans g2
    go_wp2_with fail
    go_ret
    exact ⟨by first | rfl | simp, G2⟩
  · go_enter Try.func16, Try.ntmps16
    go_wp2_with fail
    refine X1.out.mono ?_
    rintro e w1 ⟨rfl, g1⟩
    go_wp2_with fail
    refine (X2.out _ g1).mono ?_
    rintro e w2 ⟨rfl, g2⟩
    have G2 := g1.trans g2
    go_wp2_with fail
    go_ret
    exact ⟨by first | rfl | simp, G2⟩
end Tb
end Go.Proofs.Ythdoobgellaheaa
