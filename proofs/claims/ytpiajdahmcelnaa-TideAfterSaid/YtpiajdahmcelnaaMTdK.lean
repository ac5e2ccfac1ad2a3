/-
  The landed package tide: Bound and At, whatever the input; Drift.
-/
import Derived.Test.YtpiajdahmcelnaaMTdJ
import Derived.Test.YtpiajdahmcelnaaMHullCon
namespace Go.Proofs.Ytpiajdahmcelnaa
open Go.RowKit Hl
namespace Td
set_option maxRecDepth 100000
open Classical in
/-- What Bound answers: the bounds, and the error. -/
noncomputable def bA (t : Ed) (lo hi : Pt) (c d : Int) : Bd × Int := if BOk t lo hi c d then (OvB t lo hi c d, 0) else (f0.k, 1)
theorem bA_yes {t : Ed} {lo hi : Pt} {c d : Int} (h : BOk t lo hi c d) : bA t lo hi c d = (OvB t lo hi c d, 0) := by unfold bA; rw [if_pos h]
theorem bA_no {t : Ed} {lo hi : Pt} {c d : Int} (h : ¬ BOk t lo hi c d) : bA t lo hi c d = (f0.k, 1) := by unfold bA; rw [if_neg h]
theorem bound_c (K : Hl.Code) (t : Ed) (u : Value) (lo hi : Pt) (c d : Int) (w : World) (hs : Rs w u t.l) (hl : t.l.length ≤ 9223372036854775807) :
    Calls Try.prog 11 #[tv t u, .agg #[.int .i64 lo.1, .int .i64 lo.2], .agg #[.int .i64 hi.1, .int .i64 hi.2], .int .i64 c, .int .i64 d] w fun e w' => e = .returned (.tuple #[.agg #[.int .i64 0, .int .i64 0, .int .i64 0, .int .i64 (bA t lo hi c d).1.a, .int .i64 (bA t lo hi c d).1.b, .int .i64 (bA t lo hi c d).1.c, .int .i64 (bA t lo hi c d).1.d, .int .i64 (bA t lo hi c d).1.e, .int .i64 (bA t lo hi c d).1.f], .int .i64 (bA t lo hi c d).2]) ∧ Grew w w' := by
  by_cases h : BOk t lo hi c d
  · rw [bA_yes h]
    obtain ⟨k, rfl, hk⟩ := bound_ok K t u lo hi c d w hs h.1 h.2.1 h.2.2
    exact hk
  · rw [bA_no h]
    exact bound_bad K t u lo hi c d w hs hl h
set_option maxHeartbeats 4000000 in
theorem at_c (K : Hl.Code) (t : Ed) (u : Value) (x : Pt) (c : Int) (w : World) (hs : Rs w u t.l) (hl : t.l.length ≤ 9223372036854775807) :
    Calls Try.prog 12 #[tv t u, .agg #[.int .i64 x.1, .int .i64 x.2], .int .i64 c] w fun e w' => e = .returned (.tuple #[.agg #[.int .i64 0, .int .i64 0, .int .i64 0, .int .i64 (bA t x x c c).1.a, .int .i64 (bA t x x c c).1.b, .int .i64 (bA t x x c c).1.c, .int .i64 (bA t x x c c).1.d, .int .i64 (bA t x x c c).1.e, .int .i64 (bA t x x c c).1.f], .int .i64 (bA t x x c c).2]) ∧ Grew w w' := by
  have BC : Hid (∀ W, Grew w W → Calls Try.prog 11 #[tv t u, .agg #[.int .i64 x.1, .int .i64 x.2], .agg #[.int .i64 x.1, .int .i64 x.2], .int .i64 c, .int .i64 c] W fun e w' => e = .returned (.tuple #[.agg #[.int .i64 0, .int .i64 0, .int .i64 0, .int .i64 (bA t x x c c).1.a, .int .i64 (bA t x x c c).1.b, .int .i64 (bA t x x c c).1.c, .int .i64 (bA t x x c c).1.d, .int .i64 (bA t x x c c).1.e, .int .i64 (bA t x x c c).1.f], .int .i64 (bA t x x c c).2]) ∧ Grew W w') := Lib.hid (fun W g => bound_c K t u x x c c W (hs.grew g) hl)
  generalize bA t x x c c = A at *
  obtain ⟨⟨ka, kb, kc, kd, ke, kf⟩, e0⟩ := A
  simp only at BC ⊢
  unfold tv at BC ⊢
  clear K hs
  have RB : Hid (∀ W, Grew (((w.alloc (.cells #[.int .i64 t.v, .int .i64 t.z, .int .i64 t.n, .int .i64 t.r.x, .int .i64 t.r.y, .int .i64 t.r.s, .int .i64 t.r.k.a, .int .i64 t.r.k.b, .int .i64 t.r.k.c, .int .i64 t.r.k.d, .int .i64 t.r.k.e, .int .i64 t.r.k.f, u] 28)).alloc (.cells #[.int .i64 x.1, .int .i64 x.2] 30)).alloc (.cells #[.int .i64 0, .int .i64 0, .int .i64 0, .int .i64 0, .int .i64 0, .int .i64 0, .int .i64 0, .int .i64 0, .int .i64 0] 25)) W → Blk W (w.heap.size + 1 + 1) #[.int .i64 0, .int .i64 0, .int .i64 0, .int .i64 0, .int .i64 0, .int .i64 0, .int .i64 0, .int .i64 0, .int .i64 0] 25) := Lib.hid (fun W g => (blkN (by simp)).grown g)
  go_enter Try.func12, Try.ntmps12
  go_wp2_with fail
  refine (BC.out _ (by (repeat' (first | (with_reducible exact Grew.refl _) | (with_reducible assumption) | (with_reducible refine Grew.alloc ?_ _ _) | (with_reducible refine Grew.drew ?_) | (with_reducible refine Grew.drewN ?_ _) | (with_reducible refine Grew.setCell ?_ ?_ _) | go_size)))).mono ?_
  rintro e w1 ⟨rfl, g1⟩
  have RK1 := RB.out w1 g1
  have G1 : Grew w w1 := Grew.trans (by (repeat' (first | (with_reducible exact Grew.refl _) | (with_reducible assumption) | (with_reducible refine Grew.alloc ?_ _ _) | (with_reducible refine Grew.drew ?_) | (with_reducible refine Grew.drewN ?_ _) | (with_reducible refine Grew.setCell ?_ ?_ _) | go_size))) g1
  have gs1 := G1.size
  have lk := RK1.lt
  clear g1
  have rz0 := blkFz RK1 (i := 0) (by simp)
  have ry0 := blkAt RK1 (i := 0) (v := .int .i64 0) rfl
  have rz1 := blkFz RK1 (i := 1) (by simp)
  have ry1 := blkAt RK1 (i := 1) (v := .int .i64 0) rfl
  have rz2 := blkFz RK1 (i := 2) (by simp)
  have ry2 := blkAt RK1 (i := 2) (v := .int .i64 0) rfl
  have rz3 := blkFz RK1 (i := 3) (by simp)
  have ry3 := blkAt RK1 (i := 3) (v := .int .i64 0) rfl
  have rz4 := blkFz RK1 (i := 4) (by simp)
  have ry4 := blkAt RK1 (i := 4) (v := .int .i64 0) rfl
  have rz5 := blkFz RK1 (i := 5) (by simp)
  have ry5 := blkAt RK1 (i := 5) (v := .int .i64 0) rfl
  have rz6 := blkFz RK1 (i := 6) (by simp)
  have ry6 := blkAt RK1 (i := 6) (v := .int .i64 0) rfl
  have rz7 := blkFz RK1 (i := 7) (by simp)
  have ry7 := blkAt RK1 (i := 7) (v := .int .i64 0) rfl
  have rz8 := blkFz RK1 (i := 8) (by simp)
  have ry8 := blkAt RK1 (i := 8) (v := .int .i64 0) rfl
  go_wp2_with fail
  refine bodyPost_ret (v := .tuple #[.agg #[.int .i64 0, .int .i64 0, .int .i64 0, .int .i64 ka, .int .i64 kb, .int .i64 kc, .int .i64 kd, .int .i64 ke, .int .i64 kf], .int .i64 e0]) (by simp [results, Try.results12, go_sem, *]) rfl ⟨rfl, (by (repeat' (first | (with_reducible exact Grew.refl _) | (with_reducible assumption) | (with_reducible refine Grew.alloc ?_ _ _) | (with_reducible refine Grew.drew ?_) | (with_reducible refine Grew.drewN ?_ _) | (with_reducible refine Grew.setCell ?_ ?_ _) | go_size)))⟩
end Td
end Go.Proofs.Ytpiajdahmcelnaa
