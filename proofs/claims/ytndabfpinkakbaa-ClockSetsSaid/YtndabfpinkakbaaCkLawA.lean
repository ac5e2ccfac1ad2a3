/-
  The laws ClockOrder and ClockTrue.
-/
import Derived.Test.YtndabfpinkakbaaCkHead
import Derived.Test.YtndabfpinkakbaaCkR
namespace Go.Proofs.Ytndabfpinkakbaa
open Go.RowKit Sn
namespace Ck
set_option maxRecDepth 100000
theorem near_c (n m : Int) (w : World) (hn : 0 ≤ n ∧ n ≤ 18446744073709551615) (hm : 0 ≤ m ∧ m ≤ 1000000) : Calls Try.prog 37 #[.int .u64 n, .int .i64 m] w fun e w' => e = .returned (.int .i64 (nr n m)) ∧ w = w' := by
  obtain ⟨n0, n1⟩ := hn
  obtain ⟨m0, m1⟩ := hm
  have e1 := Int.emod_nonneg n (b := 2 * m + 1) (by omega)
  have e2 := Int.emod_lt_of_pos n (b := 2 * m + 1) (by omega)
  go_enter Try.func37, Try.ntmps37
  go_wp2_with fail
  go_ret
  exact ⟨by first | rfl | (simp; omega), rfl⟩
theorem follows_c (a d r y : Int) (w : World) (ha : Rd a) (hd : Df d) (hr : Rd r) (hb : 0 ≤ y ∧ y ≤ 18446744073709551615) : Calls Try.prog 20 #[.int .i64 d, .int .i64 a, .int .i64 r, .int .u64 y] w fun e w' => e = .returned (.int .i64 (nr y (ms d a r))) ∧ w = w' := by
  obtain ⟨m0, m1⟩ := dd_bd ha hd hr
  obtain ⟨a0, a1⟩ := ha
  obtain ⟨r0, r1⟩ := hr
  obtain ⟨d0, d1⟩ := hd
  by_cases p : a - r < r - a
  · have q : ds a r = r - a := by rw [ds_max]; omega
    rw [q] at m0 m1
    have H : Hid (0 ≤ d * (r - a) / 1000000 ∧ d * (r - a) / 1000000 ≤ 1000000) := Lib.hid (by omega)
    have E : Hid (ms d a r = d * (r - a) / 1000000) := Lib.hid (by unfold ms; rw [q])
    have B := Lib.hid hb
    rw [E.out]
    clear q hb
    go_enter Try.func20, Try.ntmps20
    go_wp2_with fail
    refine (near_c _ _ _ B.out H.out).mono ?_
    rintro e w' ⟨rfl, rfl⟩
    go_wp2_with fail
    go_ret
    exact ⟨rfl, rfl⟩
  · have q : ds a r = a - r := by rw [ds_max]; omega
    rw [q] at m0 m1
    have H : Hid (0 ≤ d * (a - r) / 1000000 ∧ d * (a - r) / 1000000 ≤ 1000000) := Lib.hid (by omega)
    have E : Hid (ms d a r = d * (a - r) / 1000000) := Lib.hid (by unfold ms; rw [q])
    have B := Lib.hid hb
    rw [E.out]
    clear q hb
    go_enter Try.func20, Try.ntmps20
    go_wp2_with fail
    refine (near_c _ _ _ B.out H.out).mono ?_
    rintro e w' ⟨rfl, rfl⟩
    go_wp2_with fail
    go_ret
    exact ⟨rfl, rfl⟩
set_option maxHeartbeats 4000000 in
theorem order_true (a l h d x y : Int) (w : World) : Calls Try.prog 7 #[.agg #[.int .i64 a, .int .i64 l, .int .i64 h, .int .i64 d], .int .i64 x, .int .i64 y] w fun e w' => e = .returned (.bool true) ∧ Grown w w' := by
  rcases Int.lt_trichotomy y x with q | q | q
  · skip
    by_cases hc : Cv a l h d
    · by_cases hx : Rd y
      · by_cases hy : Rd x
        · have h1 : tl a l d y ≤ tl a l d x := tl_mono hc.2.2 (by omega)
          have h2 : th a h d y ≤ th a h d x := th_mono hc.2.2 (by omega)
          have T1 := Lib.hid (true_ok a l h d y · hc hx)
          have T2 := Lib.hid (true_ok a l h d x · hc hy)
          clear hc hx hy
          generalize tl a l d y = p1 at *
          generalize th a h d y = p2 at *
          generalize tl a l d x = p3 at *
          generalize th a h d x = p4 at *
          go_enter Try.func7, Try.ntmps7
          go_wp2_with fail
          refine (head_true _).mono ?_
          rintro e w1 ⟨rfl, g1⟩
          have z1 := (laid g1).2.2
          try simp at z1
          have q1_0 : w1.cell? ⟨w.heap.size, 0, none⟩ = some (.int .i64 a) := (Grown.cell g1 (by first | (simp; omega) | simp | omega)).trans (by simp [go_sem, *])
          have q1_1 : w1.cell? ⟨w.heap.size, 1, none⟩ = some (.int .i64 l) := (Grown.cell g1 (by first | (simp; omega) | simp | omega)).trans (by simp [go_sem, *])
          have q1_2 : w1.cell? ⟨w.heap.size, 2, none⟩ = some (.int .i64 h) := (Grown.cell g1 (by first | (simp; omega) | simp | omega)).trans (by simp [go_sem, *])
          have q1_3 : w1.cell? ⟨w.heap.size, 3, none⟩ = some (.int .i64 d) := (Grown.cell g1 (by first | (simp; omega) | simp | omega)).trans (by simp [go_sem, *])
          have G1 : Grown w w1 := Grown.trans (by first | (go_grown; done) | exact Grown.drewN (by go_grown) _) g1
          have z1_w0 : w.heap.size < w1.heap.size := by omega
          clear g1
          go_wp2_with fail
          refine (T1.out _).mono ?_
          rintro e w2 ⟨rfl, g2⟩
          have z2 := (laid g2).2.2
          try simp at z2
          have q2_0 : w2.cell? ⟨w.heap.size, 0, none⟩ = some (.int .i64 a) := (Grown.cell g2 (by first | (simp; omega) | simp | omega)).trans (by simp [go_sem, *])
          have q2_1 : w2.cell? ⟨w.heap.size, 1, none⟩ = some (.int .i64 l) := (Grown.cell g2 (by first | (simp; omega) | simp | omega)).trans (by simp [go_sem, *])
          have q2_2 : w2.cell? ⟨w.heap.size, 2, none⟩ = some (.int .i64 h) := (Grown.cell g2 (by first | (simp; omega) | simp | omega)).trans (by simp [go_sem, *])
          have q2_3 : w2.cell? ⟨w.heap.size, 3, none⟩ = some (.int .i64 d) := (Grown.cell g2 (by first | (simp; omega) | simp | omega)).trans (by simp [go_sem, *])
          have G2 : Grown w w2 := Grown.trans (by first | (go_grown; done) | exact Grown.drewN (by go_grown) _) g2
          have z2_w0 : w.heap.size < w2.heap.size := by omega
          clear g2 q1_0 q1_1 q1_2 q1_3
          go_wp2_with fail
          refine (T2.out _).mono ?_
          rintro e w3 ⟨rfl, g3⟩
          have z3 := (laid g3).2.2
          try simp at z3
          have q3_0 : w3.cell? ⟨w.heap.size, 0, none⟩ = some (.int .i64 a) := (Grown.cell g3 (by first | (simp; omega) | simp | omega)).trans (by simp [go_sem, *])
          have q3_1 : w3.cell? ⟨w.heap.size, 1, none⟩ = some (.int .i64 l) := (Grown.cell g3 (by first | (simp; omega) | simp | omega)).trans (by simp [go_sem, *])
          have q3_2 : w3.cell? ⟨w.heap.size, 2, none⟩ = some (.int .i64 h) := (Grown.cell g3 (by first | (simp; omega) | simp | omega)).trans (by simp [go_sem, *])
          have q3_3 : w3.cell? ⟨w.heap.size, 3, none⟩ = some (.int .i64 d) := (Grown.cell g3 (by first | (simp; omega) | simp | omega)).trans (by simp [go_sem, *])
          have q3_4 : w3.cell? ⟨w2.heap.size, 0, none⟩ = some (.int .i64 p1) := (Grown.cell g3 (by first | (simp; omega) | simp | omega)).trans (by simp [go_sem, *])
          have q3_5 : w3.cell? ⟨w2.heap.size, 1, none⟩ = some (.int .i64 p2) := (Grown.cell g3 (by first | (simp; omega) | simp | omega)).trans (by simp [go_sem, *])
          have G3 : Grown w w3 := Grown.trans (by first | (go_grown; done) | exact Grown.drewN (by go_grown) _) g3
          have z3_w0 : w.heap.size < w3.heap.size := by omega
          have z3_w20 : w2.heap.size < w3.heap.size := by omega
          clear g3 q2_0 q2_1 q2_2 q2_3
          go_wp2_with fail
          go_ret
          exact ⟨by first | rfl | (simp; omega), by go_grown⟩
        · skip
          have T1 := Lib.hid (true_ok a l h d y · hc hx)
          have T2 := Lib.hid (true_bad a l h d x · (fun t => hy t.2))
          clear hc hx hy
          generalize tl a l d y = p1 at *
          generalize th a h d y = p2 at *
          go_enter Try.func7, Try.ntmps7
          go_wp2_with fail
          refine (head_true _).mono ?_
          rintro e w1 ⟨rfl, g1⟩
          have z1 := (laid g1).2.2
          try simp at z1
          have q1_0 : w1.cell? ⟨w.heap.size, 0, none⟩ = some (.int .i64 a) := (Grown.cell g1 (by first | (simp; omega) | simp | omega)).trans (by simp [go_sem, *])
          have q1_1 : w1.cell? ⟨w.heap.size, 1, none⟩ = some (.int .i64 l) := (Grown.cell g1 (by first | (simp; omega) | simp | omega)).trans (by simp [go_sem, *])
          have q1_2 : w1.cell? ⟨w.heap.size, 2, none⟩ = some (.int .i64 h) := (Grown.cell g1 (by first | (simp; omega) | simp | omega)).trans (by simp [go_sem, *])
          have q1_3 : w1.cell? ⟨w.heap.size, 3, none⟩ = some (.int .i64 d) := (Grown.cell g1 (by first | (simp; omega) | simp | omega)).trans (by simp [go_sem, *])
          have G1 : Grown w w1 := Grown.trans (by first | (go_grown; done) | exact Grown.drewN (by go_grown) _) g1
          have z1_w0 : w.heap.size < w1.heap.size := by omega
          clear g1
          go_wp2_with fail
          refine (T1.out _).mono ?_
          rintro e w2 ⟨rfl, g2⟩
          have z2 := (laid g2).2.2
          try simp at z2
          have q2_0 : w2.cell? ⟨w.heap.size, 0, none⟩ = some (.int .i64 a) := (Grown.cell g2 (by first | (simp; omega) | simp | omega)).trans (by simp [go_sem, *])
          have q2_1 : w2.cell? ⟨w.heap.size, 1, none⟩ = some (.int .i64 l) := (Grown.cell g2 (by first | (simp; omega) | simp | omega)).trans (by simp [go_sem, *])
          have q2_2 : w2.cell? ⟨w.heap.size, 2, none⟩ = some (.int .i64 h) := (Grown.cell g2 (by first | (simp; omega) | simp | omega)).trans (by simp [go_sem, *])
          have q2_3 : w2.cell? ⟨w.heap.size, 3, none⟩ = some (.int .i64 d) := (Grown.cell g2 (by first | (simp; omega) | simp | omega)).trans (by simp [go_sem, *])
          have G2 : Grown w w2 := Grown.trans (by first | (go_grown; done) | exact Grown.drewN (by go_grown) _) g2
          have z2_w0 : w.heap.size < w2.heap.size := by omega
          clear g2 q1_0 q1_1 q1_2 q1_3
          go_wp2_with fail
          refine (T2.out _).mono ?_
          rintro e w3 ⟨rfl, g3⟩
          have z3 := (laid g3).2.2
          try simp at z3
          have q3_0 : w3.cell? ⟨w.heap.size, 0, none⟩ = some (.int .i64 a) := (Grown.cell g3 (by first | (simp; omega) | simp | omega)).trans (by simp [go_sem, *])
          have q3_1 : w3.cell? ⟨w.heap.size, 1, none⟩ = some (.int .i64 l) := (Grown.cell g3 (by first | (simp; omega) | simp | omega)).trans (by simp [go_sem, *])
          have q3_2 : w3.cell? ⟨w.heap.size, 2, none⟩ = some (.int .i64 h) := (Grown.cell g3 (by first | (simp; omega) | simp | omega)).trans (by simp [go_sem, *])
          have q3_3 : w3.cell? ⟨w.heap.size, 3, none⟩ = some (.int .i64 d) := (Grown.cell g3 (by first | (simp; omega) | simp | omega)).trans (by simp [go_sem, *])
          have q3_4 : w3.cell? ⟨w2.heap.size, 0, none⟩ = some (.int .i64 p1) := (Grown.cell g3 (by first | (simp; omega) | simp | omega)).trans (by simp [go_sem, *])
          have q3_5 : w3.cell? ⟨w2.heap.size, 1, none⟩ = some (.int .i64 p2) := (Grown.cell g3 (by first | (simp; omega) | simp | omega)).trans (by simp [go_sem, *])
          have G3 : Grown w w3 := Grown.trans (by first | (go_grown; done) | exact Grown.drewN (by go_grown) _) g3
          have z3_w0 : w.heap.size < w3.heap.size := by omega
          have z3_w20 : w2.heap.size < w3.heap.size := by omega
          clear g3 q2_0 q2_1 q2_2 q2_3
          go_wp2_with fail
          go_ret
          exact ⟨by first | rfl | (simp; omega), by go_grown⟩
      · by_cases hy : Rd x
        · skip
          have T1 := Lib.hid (true_bad a l h d y · (fun t => hx t.2))
          have T2 := Lib.hid (true_ok a l h d x · hc hy)
          clear hc hx hy
          generalize tl a l d x = p3 at *
          generalize th a h d x = p4 at *
          go_enter Try.func7, Try.ntmps7
          go_wp2_with fail
          refine (head_true _).mono ?_
          rintro e w1 ⟨rfl, g1⟩
          have z1 := (laid g1).2.2
          try simp at z1
          have q1_0 : w1.cell? ⟨w.heap.size, 0, none⟩ = some (.int .i64 a) := (Grown.cell g1 (by first | (simp; omega) | simp | omega)).trans (by simp [go_sem, *])
          have q1_1 : w1.cell? ⟨w.heap.size, 1, none⟩ = some (.int .i64 l) := (Grown.cell g1 (by first | (simp; omega) | simp | omega)).trans (by simp [go_sem, *])
          have q1_2 : w1.cell? ⟨w.heap.size, 2, none⟩ = some (.int .i64 h) := (Grown.cell g1 (by first | (simp; omega) | simp | omega)).trans (by simp [go_sem, *])
          have q1_3 : w1.cell? ⟨w.heap.size, 3, none⟩ = some (.int .i64 d) := (Grown.cell g1 (by first | (simp; omega) | simp | omega)).trans (by simp [go_sem, *])
          have G1 : Grown w w1 := Grown.trans (by first | (go_grown; done) | exact Grown.drewN (by go_grown) _) g1
          have z1_w0 : w.heap.size < w1.heap.size := by omega
          clear g1
          go_wp2_with fail
          refine (T1.out _).mono ?_
          rintro e w2 ⟨rfl, g2⟩
          have z2 := (laid g2).2.2
          try simp at z2
          have q2_0 : w2.cell? ⟨w.heap.size, 0, none⟩ = some (.int .i64 a) := (Grown.cell g2 (by first | (simp; omega) | simp | omega)).trans (by simp [go_sem, *])
          have q2_1 : w2.cell? ⟨w.heap.size, 1, none⟩ = some (.int .i64 l) := (Grown.cell g2 (by first | (simp; omega) | simp | omega)).trans (by simp [go_sem, *])
          have q2_2 : w2.cell? ⟨w.heap.size, 2, none⟩ = some (.int .i64 h) := (Grown.cell g2 (by first | (simp; omega) | simp | omega)).trans (by simp [go_sem, *])
          have q2_3 : w2.cell? ⟨w.heap.size, 3, none⟩ = some (.int .i64 d) := (Grown.cell g2 (by first | (simp; omega) | simp | omega)).trans (by simp [go_sem, *])
          have G2 : Grown w w2 := Grown.trans (by first | (go_grown; done) | exact Grown.drewN (by go_grown) _) g2
          have z2_w0 : w.heap.size < w2.heap.size := by omega
          clear g2 q1_0 q1_1 q1_2 q1_3
          go_wp2_with fail
          refine (T2.out _).mono ?_
          rintro e w3 ⟨rfl, g3⟩
          have z3 := (laid g3).2.2
          try simp at z3
          have q3_0 : w3.cell? ⟨w.heap.size, 0, none⟩ = some (.int .i64 a) := (Grown.cell g3 (by first | (simp; omega) | simp | omega)).trans (by simp [go_sem, *])
          have q3_1 : w3.cell? ⟨w.heap.size, 1, none⟩ = some (.int .i64 l) := (Grown.cell g3 (by first | (simp; omega) | simp | omega)).trans (by simp [go_sem, *])
          have q3_2 : w3.cell? ⟨w.heap.size, 2, none⟩ = some (.int .i64 h) := (Grown.cell g3 (by first | (simp; omega) | simp | omega)).trans (by simp [go_sem, *])
          have q3_3 : w3.cell? ⟨w.heap.size, 3, none⟩ = some (.int .i64 d) := (Grown.cell g3 (by first | (simp; omega) | simp | omega)).trans (by simp [go_sem, *])
          have q3_4 : w3.cell? ⟨w2.heap.size, 0, none⟩ = some (.int .i64 0) := (Grown.cell g3 (by first | (simp; omega) | simp | omega)).trans (by simp [go_sem, *])
          have q3_5 : w3.cell? ⟨w2.heap.size, 1, none⟩ = some (.int .i64 0) := (Grown.cell g3 (by first | (simp; omega) | simp | omega)).trans (by simp [go_sem, *])
          have G3 : Grown w w3 := Grown.trans (by first | (go_grown; done) | exact Grown.drewN (by go_grown) _) g3
          have z3_w0 : w.heap.size < w3.heap.size := by omega
          have z3_w20 : w2.heap.size < w3.heap.size := by omega
          clear g3 q2_0 q2_1 q2_2 q2_3
          go_wp2_with fail
          go_ret
          exact ⟨by first | rfl | (simp; omega), by go_grown⟩
        · skip
          have T1 := Lib.hid (true_bad a l h d y · (fun t => hx t.2))
          have T2 := Lib.hid (true_bad a l h d x · (fun t => hy t.2))
          clear hc hx hy
          go_enter Try.func7, Try.ntmps7
          go_wp2_with fail
          refine (head_true _).mono ?_
          rintro e w1 ⟨rfl, g1⟩
          have z1 := (laid g1).2.2
          try simp at z1
          have q1_0 : w1.cell? ⟨w.heap.size, 0, none⟩ = some (.int .i64 a) := (Grown.cell g1 (by first | (simp; omega) | simp | omega)).trans (by simp [go_sem, *])
          have q1_1 : w1.cell? ⟨w.heap.size, 1, none⟩ = some (.int .i64 l) := (Grown.cell g1 (by first | (simp; omega) | simp | omega)).trans (by simp [go_sem, *])
          have q1_2 : w1.cell? ⟨w.heap.size, 2, none⟩ = some (.int .i64 h) := (Grown.cell g1 (by first | (simp; omega) | simp | omega)).trans (by simp [go_sem, *])
          have q1_3 : w1.cell? ⟨w.heap.size, 3, none⟩ = some (.int .i64 d) := (Grown.cell g1 (by first | (simp; omega) | simp | omega)).trans (by simp [go_sem, *])
          have G1 : Grown w w1 := Grown.trans (by first | (go_grown; done) | exact Grown.drewN (by go_grown) _) g1
          have z1_w0 : w.heap.size < w1.heap.size := by omega
          clear g1
          go_wp2_with fail
          refine (T1.out _).mono ?_
          rintro e w2 ⟨rfl, g2⟩
          have z2 := (laid g2).2.2
          try simp at z2
          have q2_0 : w2.cell? ⟨w.heap.size, 0, none⟩ = some (.int .i64 a) := (Grown.cell g2 (by first | (simp; omega) | simp | omega)).trans (by simp [go_sem, *])
          have q2_1 : w2.cell? ⟨w.heap.size, 1, none⟩ = some (.int .i64 l) := (Grown.cell g2 (by first | (simp; omega) | simp | omega)).trans (by simp [go_sem, *])
          have q2_2 : w2.cell? ⟨w.heap.size, 2, none⟩ = some (.int .i64 h) := (Grown.cell g2 (by first | (simp; omega) | simp | omega)).trans (by simp [go_sem, *])
          have q2_3 : w2.cell? ⟨w.heap.size, 3, none⟩ = some (.int .i64 d) := (Grown.cell g2 (by first | (simp; omega) | simp | omega)).trans (by simp [go_sem, *])
          have G2 : Grown w w2 := Grown.trans (by first | (go_grown; done) | exact Grown.drewN (by go_grown) _) g2
          have z2_w0 : w.heap.size < w2.heap.size := by omega
          clear g2 q1_0 q1_1 q1_2 q1_3
          go_wp2_with fail
          refine (T2.out _).mono ?_
          rintro e w3 ⟨rfl, g3⟩
          have z3 := (laid g3).2.2
          try simp at z3
          have q3_0 : w3.cell? ⟨w.heap.size, 0, none⟩ = some (.int .i64 a) := (Grown.cell g3 (by first | (simp; omega) | simp | omega)).trans (by simp [go_sem, *])
          have q3_1 : w3.cell? ⟨w.heap.size, 1, none⟩ = some (.int .i64 l) := (Grown.cell g3 (by first | (simp; omega) | simp | omega)).trans (by simp [go_sem, *])
          have q3_2 : w3.cell? ⟨w.heap.size, 2, none⟩ = some (.int .i64 h) := (Grown.cell g3 (by first | (simp; omega) | simp | omega)).trans (by simp [go_sem, *])
          have q3_3 : w3.cell? ⟨w.heap.size, 3, none⟩ = some (.int .i64 d) := (Grown.cell g3 (by first | (simp; omega) | simp | omega)).trans (by simp [go_sem, *])
          have q3_4 : w3.cell? ⟨w2.heap.size, 0, none⟩ = some (.int .i64 0) := (Grown.cell g3 (by first | (simp; omega) | simp | omega)).trans (by simp [go_sem, *])
          have q3_5 : w3.cell? ⟨w2.heap.size, 1, none⟩ = some (.int .i64 0) := (Grown.cell g3 (by first | (simp; omega) | simp | omega)).trans (by simp [go_sem, *])
          have G3 : Grown w w3 := Grown.trans (by first | (go_grown; done) | exact Grown.drewN (by go_grown) _) g3
          have z3_w0 : w.heap.size < w3.heap.size := by omega
          have z3_w20 : w2.heap.size < w3.heap.size := by omega
          clear g3 q2_0 q2_1 q2_2 q2_3
          go_wp2_with fail
          go_ret
          exact ⟨by first | rfl | (simp; omega), by go_grown⟩
    · skip
      have T1 := Lib.hid (true_bad a l h d y · (fun t => hc t.1))
      have T2 := Lib.hid (true_bad a l h d x · (fun t => hc t.1))
      clear hc
      go_enter Try.func7, Try.ntmps7
      go_wp2_with fail
      refine (head_true _).mono ?_
      rintro e w1 ⟨rfl, g1⟩
      have z1 := (laid g1).2.2
      try simp at z1
      have q1_0 : w1.cell? ⟨w.heap.size, 0, none⟩ = some (.int .i64 a) := (Grown.cell g1 (by first | (simp; omega) | simp | omega)).trans (by simp [go_sem, *])
      have q1_1 : w1.cell? ⟨w.heap.size, 1, none⟩ = some (.int .i64 l) := (Grown.cell g1 (by first | (simp; omega) | simp | omega)).trans (by simp [go_sem, *])
      have q1_2 : w1.cell? ⟨w.heap.size, 2, none⟩ = some (.int .i64 h) := (Grown.cell g1 (by first | (simp; omega) | simp | omega)).trans (by simp [go_sem, *])
      have q1_3 : w1.cell? ⟨w.heap.size, 3, none⟩ = some (.int .i64 d) := (Grown.cell g1 (by first | (simp; omega) | simp | omega)).trans (by simp [go_sem, *])
      have G1 : Grown w w1 := Grown.trans (by first | (go_grown; done) | exact Grown.drewN (by go_grown) _) g1
      have z1_w0 : w.heap.size < w1.heap.size := by omega
      clear g1
      go_wp2_with fail
      refine (T1.out _).mono ?_
      rintro e w2 ⟨rfl, g2⟩
      have z2 := (laid g2).2.2
      try simp at z2
      have q2_0 : w2.cell? ⟨w.heap.size, 0, none⟩ = some (.int .i64 a) := (Grown.cell g2 (by first | (simp; omega) | simp | omega)).trans (by simp [go_sem, *])
      have q2_1 : w2.cell? ⟨w.heap.size, 1, none⟩ = some (.int .i64 l) := (Grown.cell g2 (by first | (simp; omega) | simp | omega)).trans (by simp [go_sem, *])
      have q2_2 : w2.cell? ⟨w.heap.size, 2, none⟩ = some (.int .i64 h) := (Grown.cell g2 (by first | (simp; omega) | simp | omega)).trans (by simp [go_sem, *])
      have q2_3 : w2.cell? ⟨w.heap.size, 3, none⟩ = some (.int .i64 d) := (Grown.cell g2 (by first | (simp; omega) | simp | omega)).trans (by simp [go_sem, *])
      have G2 : Grown w w2 := Grown.trans (by first | (go_grown; done) | exact Grown.drewN (by go_grown) _) g2
      have z2_w0 : w.heap.size < w2.heap.size := by omega
      clear g2 q1_0 q1_1 q1_2 q1_3
      go_wp2_with fail
      refine (T2.out _).mono ?_
      rintro e w3 ⟨rfl, g3⟩
      have z3 := (laid g3).2.2
      try simp at z3
      have q3_0 : w3.cell? ⟨w.heap.size, 0, none⟩ = some (.int .i64 a) := (Grown.cell g3 (by first | (simp; omega) | simp | omega)).trans (by simp [go_sem, *])
      have q3_1 : w3.cell? ⟨w.heap.size, 1, none⟩ = some (.int .i64 l) := (Grown.cell g3 (by first | (simp; omega) | simp | omega)).trans (by simp [go_sem, *])
      have q3_2 : w3.cell? ⟨w.heap.size, 2, none⟩ = some (.int .i64 h) := (Grown.cell g3 (by first | (simp; omega) | simp | omega)).trans (by simp [go_sem, *])
      have q3_3 : w3.cell? ⟨w.heap.size, 3, none⟩ = some (.int .i64 d) := (Grown.cell g3 (by first | (simp; omega) | simp | omega)).trans (by simp [go_sem, *])
      have q3_4 : w3.cell? ⟨w2.heap.size, 0, none⟩ = some (.int .i64 0) := (Grown.cell g3 (by first | (simp; omega) | simp | omega)).trans (by simp [go_sem, *])
      have q3_5 : w3.cell? ⟨w2.heap.size, 1, none⟩ = some (.int .i64 0) := (Grown.cell g3 (by first | (simp; omega) | simp | omega)).trans (by simp [go_sem, *])
      have G3 : Grown w w3 := Grown.trans (by first | (go_grown; done) | exact Grown.drewN (by go_grown) _) g3
      have z3_w0 : w.heap.size < w3.heap.size := by omega
      have z3_w20 : w2.heap.size < w3.heap.size := by omega
      clear g3 q2_0 q2_1 q2_2 q2_3
      go_wp2_with fail
      go_ret
      exact ⟨by first | rfl | (simp; omega), by go_grown⟩
  · subst q
    by_cases hc : Cv a l h d
    · by_cases hx : Rd y
      · skip
        have T1 := Lib.hid (true_ok a l h d y · hc hx)
        have T2 := Lib.hid (true_ok a l h d y · hc hx)
        clear hc hx
        generalize tl a l d y = p1 at *
        generalize th a h d y = p2 at *
        go_enter Try.func7, Try.ntmps7
        go_wp2_with fail
        refine (head_true _).mono ?_
        rintro e w1 ⟨rfl, g1⟩
        have z1 := (laid g1).2.2
        try simp at z1
        have q1_0 : w1.cell? ⟨w.heap.size, 0, none⟩ = some (.int .i64 a) := (Grown.cell g1 (by first | (simp; omega) | simp | omega)).trans (by simp [go_sem, *])
        have q1_1 : w1.cell? ⟨w.heap.size, 1, none⟩ = some (.int .i64 l) := (Grown.cell g1 (by first | (simp; omega) | simp | omega)).trans (by simp [go_sem, *])
        have q1_2 : w1.cell? ⟨w.heap.size, 2, none⟩ = some (.int .i64 h) := (Grown.cell g1 (by first | (simp; omega) | simp | omega)).trans (by simp [go_sem, *])
        have q1_3 : w1.cell? ⟨w.heap.size, 3, none⟩ = some (.int .i64 d) := (Grown.cell g1 (by first | (simp; omega) | simp | omega)).trans (by simp [go_sem, *])
        have G1 : Grown w w1 := Grown.trans (by first | (go_grown; done) | exact Grown.drewN (by go_grown) _) g1
        have z1_w0 : w.heap.size < w1.heap.size := by omega
        clear g1
        go_wp2_with fail
        refine (T1.out _).mono ?_
        rintro e w2 ⟨rfl, g2⟩
        have z2 := (laid g2).2.2
        try simp at z2
        have q2_0 : w2.cell? ⟨w.heap.size, 0, none⟩ = some (.int .i64 a) := (Grown.cell g2 (by first | (simp; omega) | simp | omega)).trans (by simp [go_sem, *])
        have q2_1 : w2.cell? ⟨w.heap.size, 1, none⟩ = some (.int .i64 l) := (Grown.cell g2 (by first | (simp; omega) | simp | omega)).trans (by simp [go_sem, *])
        have q2_2 : w2.cell? ⟨w.heap.size, 2, none⟩ = some (.int .i64 h) := (Grown.cell g2 (by first | (simp; omega) | simp | omega)).trans (by simp [go_sem, *])
        have q2_3 : w2.cell? ⟨w.heap.size, 3, none⟩ = some (.int .i64 d) := (Grown.cell g2 (by first | (simp; omega) | simp | omega)).trans (by simp [go_sem, *])
        have G2 : Grown w w2 := Grown.trans (by first | (go_grown; done) | exact Grown.drewN (by go_grown) _) g2
        have z2_w0 : w.heap.size < w2.heap.size := by omega
        clear g2 q1_0 q1_1 q1_2 q1_3
        go_wp2_with fail
        refine (T2.out _).mono ?_
        rintro e w3 ⟨rfl, g3⟩
        have z3 := (laid g3).2.2
        try simp at z3
        have q3_0 : w3.cell? ⟨w.heap.size, 0, none⟩ = some (.int .i64 a) := (Grown.cell g3 (by first | (simp; omega) | simp | omega)).trans (by simp [go_sem, *])
        have q3_1 : w3.cell? ⟨w.heap.size, 1, none⟩ = some (.int .i64 l) := (Grown.cell g3 (by first | (simp; omega) | simp | omega)).trans (by simp [go_sem, *])
        have q3_2 : w3.cell? ⟨w.heap.size, 2, none⟩ = some (.int .i64 h) := (Grown.cell g3 (by first | (simp; omega) | simp | omega)).trans (by simp [go_sem, *])
        have q3_3 : w3.cell? ⟨w.heap.size, 3, none⟩ = some (.int .i64 d) := (Grown.cell g3 (by first | (simp; omega) | simp | omega)).trans (by simp [go_sem, *])
        have q3_4 : w3.cell? ⟨w2.heap.size, 0, none⟩ = some (.int .i64 p1) := (Grown.cell g3 (by first | (simp; omega) | simp | omega)).trans (by simp [go_sem, *])
        have q3_5 : w3.cell? ⟨w2.heap.size, 1, none⟩ = some (.int .i64 p2) := (Grown.cell g3 (by first | (simp; omega) | simp | omega)).trans (by simp [go_sem, *])
        have G3 : Grown w w3 := Grown.trans (by first | (go_grown; done) | exact Grown.drewN (by go_grown) _) g3
        have z3_w0 : w.heap.size < w3.heap.size := by omega
        have z3_w20 : w2.heap.size < w3.heap.size := by omega
        clear g3 q2_0 q2_1 q2_2 q2_3
        go_wp2_with fail
        go_ret
        exact ⟨by first | rfl | (simp; omega), by go_grown⟩
      · skip
        have T1 := Lib.hid (true_bad a l h d y · (fun t => hx t.2))
        have T2 := Lib.hid (true_bad a l h d y · (fun t => hx t.2))
        clear hc hx
        go_enter Try.func7, Try.ntmps7
        go_wp2_with fail
        refine (head_true _).mono ?_
        rintro e w1 ⟨rfl, g1⟩
        have z1 := (laid g1).2.2
        try simp at z1
        have q1_0 : w1.cell? ⟨w.heap.size, 0, none⟩ = some (.int .i64 a) := (Grown.cell g1 (by first | (simp; omega) | simp | omega)).trans (by simp [go_sem, *])
        have q1_1 : w1.cell? ⟨w.heap.size, 1, none⟩ = some (.int .i64 l) := (Grown.cell g1 (by first | (simp; omega) | simp | omega)).trans (by simp [go_sem, *])
        have q1_2 : w1.cell? ⟨w.heap.size, 2, none⟩ = some (.int .i64 h) := (Grown.cell g1 (by first | (simp; omega) | simp | omega)).trans (by simp [go_sem, *])
        have q1_3 : w1.cell? ⟨w.heap.size, 3, none⟩ = some (.int .i64 d) := (Grown.cell g1 (by first | (simp; omega) | simp | omega)).trans (by simp [go_sem, *])
        have G1 : Grown w w1 := Grown.trans (by first | (go_grown; done) | exact Grown.drewN (by go_grown) _) g1
        have z1_w0 : w.heap.size < w1.heap.size := by omega
        clear g1
        go_wp2_with fail
        refine (T1.out _).mono ?_
        rintro e w2 ⟨rfl, g2⟩
        have z2 := (laid g2).2.2
        try simp at z2
        have q2_0 : w2.cell? ⟨w.heap.size, 0, none⟩ = some (.int .i64 a) := (Grown.cell g2 (by first | (simp; omega) | simp | omega)).trans (by simp [go_sem, *])
        have q2_1 : w2.cell? ⟨w.heap.size, 1, none⟩ = some (.int .i64 l) := (Grown.cell g2 (by first | (simp; omega) | simp | omega)).trans (by simp [go_sem, *])
        have q2_2 : w2.cell? ⟨w.heap.size, 2, none⟩ = some (.int .i64 h) := (Grown.cell g2 (by first | (simp; omega) | simp | omega)).trans (by simp [go_sem, *])
        have q2_3 : w2.cell? ⟨w.heap.size, 3, none⟩ = some (.int .i64 d) := (Grown.cell g2 (by first | (simp; omega) | simp | omega)).trans (by simp [go_sem, *])
        have G2 : Grown w w2 := Grown.trans (by first | (go_grown; done) | exact Grown.drewN (by go_grown) _) g2
        have z2_w0 : w.heap.size < w2.heap.size := by omega
        clear g2 q1_0 q1_1 q1_2 q1_3
        go_wp2_with fail
        refine (T2.out _).mono ?_
        rintro e w3 ⟨rfl, g3⟩
        have z3 := (laid g3).2.2
        try simp at z3
        have q3_0 : w3.cell? ⟨w.heap.size, 0, none⟩ = some (.int .i64 a) := (Grown.cell g3 (by first | (simp; omega) | simp | omega)).trans (by simp [go_sem, *])
        have q3_1 : w3.cell? ⟨w.heap.size, 1, none⟩ = some (.int .i64 l) := (Grown.cell g3 (by first | (simp; omega) | simp | omega)).trans (by simp [go_sem, *])
        have q3_2 : w3.cell? ⟨w.heap.size, 2, none⟩ = some (.int .i64 h) := (Grown.cell g3 (by first | (simp; omega) | simp | omega)).trans (by simp [go_sem, *])
        have q3_3 : w3.cell? ⟨w.heap.size, 3, none⟩ = some (.int .i64 d) := (Grown.cell g3 (by first | (simp; omega) | simp | omega)).trans (by simp [go_sem, *])
        have q3_4 : w3.cell? ⟨w2.heap.size, 0, none⟩ = some (.int .i64 0) := (Grown.cell g3 (by first | (simp; omega) | simp | omega)).trans (by simp [go_sem, *])
        have q3_5 : w3.cell? ⟨w2.heap.size, 1, none⟩ = some (.int .i64 0) := (Grown.cell g3 (by first | (simp; omega) | simp | omega)).trans (by simp [go_sem, *])
        have G3 : Grown w w3 := Grown.trans (by first | (go_grown; done) | exact Grown.drewN (by go_grown) _) g3
        have z3_w0 : w.heap.size < w3.heap.size := by omega
        have z3_w20 : w2.heap.size < w3.heap.size := by omega
        clear g3 q2_0 q2_1 q2_2 q2_3
        go_wp2_with fail
        go_ret
        exact ⟨by first | rfl | (simp; omega), by go_grown⟩
    · skip
      have T1 := Lib.hid (true_bad a l h d y · (fun t => hc t.1))
      have T2 := Lib.hid (true_bad a l h d y · (fun t => hc t.1))
      clear hc
      go_enter Try.func7, Try.ntmps7
      go_wp2_with fail
      refine (head_true _).mono ?_
      rintro e w1 ⟨rfl, g1⟩
      have z1 := (laid g1).2.2
      try simp at z1
      have q1_0 : w1.cell? ⟨w.heap.size, 0, none⟩ = some (.int .i64 a) := (Grown.cell g1 (by first | (simp; omega) | simp | omega)).trans (by simp [go_sem, *])
      have q1_1 : w1.cell? ⟨w.heap.size, 1, none⟩ = some (.int .i64 l) := (Grown.cell g1 (by first | (simp; omega) | simp | omega)).trans (by simp [go_sem, *])
      have q1_2 : w1.cell? ⟨w.heap.size, 2, none⟩ = some (.int .i64 h) := (Grown.cell g1 (by first | (simp; omega) | simp | omega)).trans (by simp [go_sem, *])
      have q1_3 : w1.cell? ⟨w.heap.size, 3, none⟩ = some (.int .i64 d) := (Grown.cell g1 (by first | (simp; omega) | simp | omega)).trans (by simp [go_sem, *])
      have G1 : Grown w w1 := Grown.trans (by first | (go_grown; done) | exact Grown.drewN (by go_grown) _) g1
      have z1_w0 : w.heap.size < w1.heap.size := by omega
      clear g1
      go_wp2_with fail
      refine (T1.out _).mono ?_
      rintro e w2 ⟨rfl, g2⟩
      have z2 := (laid g2).2.2
      try simp at z2
      have q2_0 : w2.cell? ⟨w.heap.size, 0, none⟩ = some (.int .i64 a) := (Grown.cell g2 (by first | (simp; omega) | simp | omega)).trans (by simp [go_sem, *])
      have q2_1 : w2.cell? ⟨w.heap.size, 1, none⟩ = some (.int .i64 l) := (Grown.cell g2 (by first | (simp; omega) | simp | omega)).trans (by simp [go_sem, *])
      have q2_2 : w2.cell? ⟨w.heap.size, 2, none⟩ = some (.int .i64 h) := (Grown.cell g2 (by first | (simp; omega) | simp | omega)).trans (by simp [go_sem, *])
      have q2_3 : w2.cell? ⟨w.heap.size, 3, none⟩ = some (.int .i64 d) := (Grown.cell g2 (by first | (simp; omega) | simp | omega)).trans (by simp [go_sem, *])
      have G2 : Grown w w2 := Grown.trans (by first | (go_grown; done) | exact Grown.drewN (by go_grown) _) g2
      have z2_w0 : w.heap.size < w2.heap.size := by omega
      clear g2 q1_0 q1_1 q1_2 q1_3
      go_wp2_with fail
      refine (T2.out _).mono ?_
      rintro e w3 ⟨rfl, g3⟩
      have z3 := (laid g3).2.2
      try simp at z3
      have q3_0 : w3.cell? ⟨w.heap.size, 0, none⟩ = some (.int .i64 a) := (Grown.cell g3 (by first | (simp; omega) | simp | omega)).trans (by simp [go_sem, *])
      have q3_1 : w3.cell? ⟨w.heap.size, 1, none⟩ = some (.int .i64 l) := (Grown.cell g3 (by first | (simp; omega) | simp | omega)).trans (by simp [go_sem, *])
      have q3_2 : w3.cell? ⟨w.heap.size, 2, none⟩ = some (.int .i64 h) := (Grown.cell g3 (by first | (simp; omega) | simp | omega)).trans (by simp [go_sem, *])
      have q3_3 : w3.cell? ⟨w.heap.size, 3, none⟩ = some (.int .i64 d) := (Grown.cell g3 (by first | (simp; omega) | simp | omega)).trans (by simp [go_sem, *])
      have q3_4 : w3.cell? ⟨w2.heap.size, 0, none⟩ = some (.int .i64 0) := (Grown.cell g3 (by first | (simp; omega) | simp | omega)).trans (by simp [go_sem, *])
      have q3_5 : w3.cell? ⟨w2.heap.size, 1, none⟩ = some (.int .i64 0) := (Grown.cell g3 (by first | (simp; omega) | simp | omega)).trans (by simp [go_sem, *])
      have G3 : Grown w w3 := Grown.trans (by first | (go_grown; done) | exact Grown.drewN (by go_grown) _) g3
      have z3_w0 : w.heap.size < w3.heap.size := by omega
      have z3_w20 : w2.heap.size < w3.heap.size := by omega
      clear g3 q2_0 q2_1 q2_2 q2_3
      go_wp2_with fail
      go_ret
      exact ⟨by first | rfl | (simp; omega), by go_grown⟩
  · skip
    by_cases hc : Cv a l h d
    · by_cases hx : Rd x
      · by_cases hy : Rd y
        · have h1 : tl a l d x ≤ tl a l d y := tl_mono hc.2.2 (by omega)
          have h2 : th a h d x ≤ th a h d y := th_mono hc.2.2 (by omega)
          have T1 := Lib.hid (true_ok a l h d x · hc hx)
          have T2 := Lib.hid (true_ok a l h d y · hc hy)
          clear hc hx hy
          generalize tl a l d x = p1 at *
          generalize th a h d x = p2 at *
          generalize tl a l d y = p3 at *
          generalize th a h d y = p4 at *
          go_enter Try.func7, Try.ntmps7
          go_wp2_with fail
          refine (head_true _).mono ?_
          rintro e w1 ⟨rfl, g1⟩
          have z1 := (laid g1).2.2
          try simp at z1
          have q1_0 : w1.cell? ⟨w.heap.size, 0, none⟩ = some (.int .i64 a) := (Grown.cell g1 (by first | (simp; omega) | simp | omega)).trans (by simp [go_sem, *])
          have q1_1 : w1.cell? ⟨w.heap.size, 1, none⟩ = some (.int .i64 l) := (Grown.cell g1 (by first | (simp; omega) | simp | omega)).trans (by simp [go_sem, *])
          have q1_2 : w1.cell? ⟨w.heap.size, 2, none⟩ = some (.int .i64 h) := (Grown.cell g1 (by first | (simp; omega) | simp | omega)).trans (by simp [go_sem, *])
          have q1_3 : w1.cell? ⟨w.heap.size, 3, none⟩ = some (.int .i64 d) := (Grown.cell g1 (by first | (simp; omega) | simp | omega)).trans (by simp [go_sem, *])
          have G1 : Grown w w1 := Grown.trans (by first | (go_grown; done) | exact Grown.drewN (by go_grown) _) g1
          have z1_w0 : w.heap.size < w1.heap.size := by omega
          clear g1
          go_wp2_with fail
          refine (T1.out _).mono ?_
          rintro e w2 ⟨rfl, g2⟩
          have z2 := (laid g2).2.2
          try simp at z2
          have q2_0 : w2.cell? ⟨w.heap.size, 0, none⟩ = some (.int .i64 a) := (Grown.cell g2 (by first | (simp; omega) | simp | omega)).trans (by simp [go_sem, *])
          have q2_1 : w2.cell? ⟨w.heap.size, 1, none⟩ = some (.int .i64 l) := (Grown.cell g2 (by first | (simp; omega) | simp | omega)).trans (by simp [go_sem, *])
          have q2_2 : w2.cell? ⟨w.heap.size, 2, none⟩ = some (.int .i64 h) := (Grown.cell g2 (by first | (simp; omega) | simp | omega)).trans (by simp [go_sem, *])
          have q2_3 : w2.cell? ⟨w.heap.size, 3, none⟩ = some (.int .i64 d) := (Grown.cell g2 (by first | (simp; omega) | simp | omega)).trans (by simp [go_sem, *])
          have G2 : Grown w w2 := Grown.trans (by first | (go_grown; done) | exact Grown.drewN (by go_grown) _) g2
          have z2_w0 : w.heap.size < w2.heap.size := by omega
          clear g2 q1_0 q1_1 q1_2 q1_3
          go_wp2_with fail
          refine (T2.out _).mono ?_
          rintro e w3 ⟨rfl, g3⟩
          have z3 := (laid g3).2.2
          try simp at z3
          have q3_0 : w3.cell? ⟨w.heap.size, 0, none⟩ = some (.int .i64 a) := (Grown.cell g3 (by first | (simp; omega) | simp | omega)).trans (by simp [go_sem, *])
          have q3_1 : w3.cell? ⟨w.heap.size, 1, none⟩ = some (.int .i64 l) := (Grown.cell g3 (by first | (simp; omega) | simp | omega)).trans (by simp [go_sem, *])
          have q3_2 : w3.cell? ⟨w.heap.size, 2, none⟩ = some (.int .i64 h) := (Grown.cell g3 (by first | (simp; omega) | simp | omega)).trans (by simp [go_sem, *])
          have q3_3 : w3.cell? ⟨w.heap.size, 3, none⟩ = some (.int .i64 d) := (Grown.cell g3 (by first | (simp; omega) | simp | omega)).trans (by simp [go_sem, *])
          have q3_4 : w3.cell? ⟨w2.heap.size, 0, none⟩ = some (.int .i64 p1) := (Grown.cell g3 (by first | (simp; omega) | simp | omega)).trans (by simp [go_sem, *])
          have q3_5 : w3.cell? ⟨w2.heap.size, 1, none⟩ = some (.int .i64 p2) := (Grown.cell g3 (by first | (simp; omega) | simp | omega)).trans (by simp [go_sem, *])
          have G3 : Grown w w3 := Grown.trans (by first | (go_grown; done) | exact Grown.drewN (by go_grown) _) g3
          have z3_w0 : w.heap.size < w3.heap.size := by omega
          have z3_w20 : w2.heap.size < w3.heap.size := by omega
          clear g3 q2_0 q2_1 q2_2 q2_3
          go_wp2_with fail
          go_ret
          exact ⟨by first | rfl | (simp; omega), by go_grown⟩
        · skip
          have T1 := Lib.hid (true_ok a l h d x · hc hx)
          have T2 := Lib.hid (true_bad a l h d y · (fun t => hy t.2))
          clear hc hx hy
          generalize tl a l d x = p1 at *
          generalize th a h d x = p2 at *
          go_enter Try.func7, Try.ntmps7
          go_wp2_with fail
          refine (head_true _).mono ?_
          rintro e w1 ⟨rfl, g1⟩
          have z1 := (laid g1).2.2
          try simp at z1
          have q1_0 : w1.cell? ⟨w.heap.size, 0, none⟩ = some (.int .i64 a) := (Grown.cell g1 (by first | (simp; omega) | simp | omega)).trans (by simp [go_sem, *])
          have q1_1 : w1.cell? ⟨w.heap.size, 1, none⟩ = some (.int .i64 l) := (Grown.cell g1 (by first | (simp; omega) | simp | omega)).trans (by simp [go_sem, *])
          have q1_2 : w1.cell? ⟨w.heap.size, 2, none⟩ = some (.int .i64 h) := (Grown.cell g1 (by first | (simp; omega) | simp | omega)).trans (by simp [go_sem, *])
          have q1_3 : w1.cell? ⟨w.heap.size, 3, none⟩ = some (.int .i64 d) := (Grown.cell g1 (by first | (simp; omega) | simp | omega)).trans (by simp [go_sem, *])
          have G1 : Grown w w1 := Grown.trans (by first | (go_grown; done) | exact Grown.drewN (by go_grown) _) g1
          have z1_w0 : w.heap.size < w1.heap.size := by omega
          clear g1
          go_wp2_with fail
          refine (T1.out _).mono ?_
          rintro e w2 ⟨rfl, g2⟩
          have z2 := (laid g2).2.2
          try simp at z2
          have q2_0 : w2.cell? ⟨w.heap.size, 0, none⟩ = some (.int .i64 a) := (Grown.cell g2 (by first | (simp; omega) | simp | omega)).trans (by simp [go_sem, *])
          have q2_1 : w2.cell? ⟨w.heap.size, 1, none⟩ = some (.int .i64 l) := (Grown.cell g2 (by first | (simp; omega) | simp | omega)).trans (by simp [go_sem, *])
          have q2_2 : w2.cell? ⟨w.heap.size, 2, none⟩ = some (.int .i64 h) := (Grown.cell g2 (by first | (simp; omega) | simp | omega)).trans (by simp [go_sem, *])
          have q2_3 : w2.cell? ⟨w.heap.size, 3, none⟩ = some (.int .i64 d) := (Grown.cell g2 (by first | (simp; omega) | simp | omega)).trans (by simp [go_sem, *])
          have G2 : Grown w w2 := Grown.trans (by first | (go_grown; done) | exact Grown.drewN (by go_grown) _) g2
          have z2_w0 : w.heap.size < w2.heap.size := by omega
          clear g2 q1_0 q1_1 q1_2 q1_3
          go_wp2_with fail
          refine (T2.out _).mono ?_
          rintro e w3 ⟨rfl, g3⟩
          have z3 := (laid g3).2.2
          try simp at z3
          have q3_0 : w3.cell? ⟨w.heap.size, 0, none⟩ = some (.int .i64 a) := (Grown.cell g3 (by first | (simp; omega) | simp | omega)).trans (by simp [go_sem, *])
          have q3_1 : w3.cell? ⟨w.heap.size, 1, none⟩ = some (.int .i64 l) := (Grown.cell g3 (by first | (simp; omega) | simp | omega)).trans (by simp [go_sem, *])
          have q3_2 : w3.cell? ⟨w.heap.size, 2, none⟩ = some (.int .i64 h) := (Grown.cell g3 (by first | (simp; omega) | simp | omega)).trans (by simp [go_sem, *])
          have q3_3 : w3.cell? ⟨w.heap.size, 3, none⟩ = some (.int .i64 d) := (Grown.cell g3 (by first | (simp; omega) | simp | omega)).trans (by simp [go_sem, *])
          have q3_4 : w3.cell? ⟨w2.heap.size, 0, none⟩ = some (.int .i64 p1) := (Grown.cell g3 (by first | (simp; omega) | simp | omega)).trans (by simp [go_sem, *])
          have q3_5 : w3.cell? ⟨w2.heap.size, 1, none⟩ = some (.int .i64 p2) := (Grown.cell g3 (by first | (simp; omega) | simp | omega)).trans (by simp [go_sem, *])
          have G3 : Grown w w3 := Grown.trans (by first | (go_grown; done) | exact Grown.drewN (by go_grown) _) g3
          have z3_w0 : w.heap.size < w3.heap.size := by omega
          have z3_w20 : w2.heap.size < w3.heap.size := by omega
          clear g3 q2_0 q2_1 q2_2 q2_3
          go_wp2_with fail
          go_ret
          exact ⟨by first | rfl | (simp; omega), by go_grown⟩
      · by_cases hy : Rd y
        · skip
          have T1 := Lib.hid (true_bad a l h d x · (fun t => hx t.2))
          have T2 := Lib.hid (true_ok a l h d y · hc hy)
          clear hc hx hy
          generalize tl a l d y = p3 at *
          generalize th a h d y = p4 at *
          go_enter Try.func7, Try.ntmps7
          go_wp2_with fail
          refine (head_true _).mono ?_
          rintro e w1 ⟨rfl, g1⟩
          have z1 := (laid g1).2.2
          try simp at z1
          have q1_0 : w1.cell? ⟨w.heap.size, 0, none⟩ = some (.int .i64 a) := (Grown.cell g1 (by first | (simp; omega) | simp | omega)).trans (by simp [go_sem, *])
          have q1_1 : w1.cell? ⟨w.heap.size, 1, none⟩ = some (.int .i64 l) := (Grown.cell g1 (by first | (simp; omega) | simp | omega)).trans (by simp [go_sem, *])
          have q1_2 : w1.cell? ⟨w.heap.size, 2, none⟩ = some (.int .i64 h) := (Grown.cell g1 (by first | (simp; omega) | simp | omega)).trans (by simp [go_sem, *])
          have q1_3 : w1.cell? ⟨w.heap.size, 3, none⟩ = some (.int .i64 d) := (Grown.cell g1 (by first | (simp; omega) | simp | omega)).trans (by simp [go_sem, *])
          have G1 : Grown w w1 := Grown.trans (by first | (go_grown; done) | exact Grown.drewN (by go_grown) _) g1
          have z1_w0 : w.heap.size < w1.heap.size := by omega
          clear g1
          go_wp2_with fail
          refine (T1.out _).mono ?_
          rintro e w2 ⟨rfl, g2⟩
          have z2 := (laid g2).2.2
          try simp at z2
          have q2_0 : w2.cell? ⟨w.heap.size, 0, none⟩ = some (.int .i64 a) := (Grown.cell g2 (by first | (simp; omega) | simp | omega)).trans (by simp [go_sem, *])
          have q2_1 : w2.cell? ⟨w.heap.size, 1, none⟩ = some (.int .i64 l) := (Grown.cell g2 (by first | (simp; omega) | simp | omega)).trans (by simp [go_sem, *])
          have q2_2 : w2.cell? ⟨w.heap.size, 2, none⟩ = some (.int .i64 h) := (Grown.cell g2 (by first | (simp; omega) | simp | omega)).trans (by simp [go_sem, *])
          have q2_3 : w2.cell? ⟨w.heap.size, 3, none⟩ = some (.int .i64 d) := (Grown.cell g2 (by first | (simp; omega) | simp | omega)).trans (by simp [go_sem, *])
          have G2 : Grown w w2 := Grown.trans (by first | (go_grown; done) | exact Grown.drewN (by go_grown) _) g2
          have z2_w0 : w.heap.size < w2.heap.size := by omega
          clear g2 q1_0 q1_1 q1_2 q1_3
          go_wp2_with fail
          refine (T2.out _).mono ?_
          rintro e w3 ⟨rfl, g3⟩
          have z3 := (laid g3).2.2
          try simp at z3
          have q3_0 : w3.cell? ⟨w.heap.size, 0, none⟩ = some (.int .i64 a) := (Grown.cell g3 (by first | (simp; omega) | simp | omega)).trans (by simp [go_sem, *])
          have q3_1 : w3.cell? ⟨w.heap.size, 1, none⟩ = some (.int .i64 l) := (Grown.cell g3 (by first | (simp; omega) | simp | omega)).trans (by simp [go_sem, *])
          have q3_2 : w3.cell? ⟨w.heap.size, 2, none⟩ = some (.int .i64 h) := (Grown.cell g3 (by first | (simp; omega) | simp | omega)).trans (by simp [go_sem, *])
          have q3_3 : w3.cell? ⟨w.heap.size, 3, none⟩ = some (.int .i64 d) := (Grown.cell g3 (by first | (simp; omega) | simp | omega)).trans (by simp [go_sem, *])
          have q3_4 : w3.cell? ⟨w2.heap.size, 0, none⟩ = some (.int .i64 0) := (Grown.cell g3 (by first | (simp; omega) | simp | omega)).trans (by simp [go_sem, *])
          have q3_5 : w3.cell? ⟨w2.heap.size, 1, none⟩ = some (.int .i64 0) := (Grown.cell g3 (by first | (simp; omega) | simp | omega)).trans (by simp [go_sem, *])
          have G3 : Grown w w3 := Grown.trans (by first | (go_grown; done) | exact Grown.drewN (by go_grown) _) g3
          have z3_w0 : w.heap.size < w3.heap.size := by omega
          have z3_w20 : w2.heap.size < w3.heap.size := by omega
          clear g3 q2_0 q2_1 q2_2 q2_3
          go_wp2_with fail
          go_ret
          exact ⟨by first | rfl | (simp; omega), by go_grown⟩
        · skip
          have T1 := Lib.hid (true_bad a l h d x · (fun t => hx t.2))
          have T2 := Lib.hid (true_bad a l h d y · (fun t => hy t.2))
          clear hc hx hy
          go_enter Try.func7, Try.ntmps7
          go_wp2_with fail
          refine (head_true _).mono ?_
          rintro e w1 ⟨rfl, g1⟩
          have z1 := (laid g1).2.2
          try simp at z1
          have q1_0 : w1.cell? ⟨w.heap.size, 0, none⟩ = some (.int .i64 a) := (Grown.cell g1 (by first | (simp; omega) | simp | omega)).trans (by simp [go_sem, *])
          have q1_1 : w1.cell? ⟨w.heap.size, 1, none⟩ = some (.int .i64 l) := (Grown.cell g1 (by first | (simp; omega) | simp | omega)).trans (by simp [go_sem, *])
          have q1_2 : w1.cell? ⟨w.heap.size, 2, none⟩ = some (.int .i64 h) := (Grown.cell g1 (by first | (simp; omega) | simp | omega)).trans (by simp [go_sem, *])
          have q1_3 : w1.cell? ⟨w.heap.size, 3, none⟩ = some (.int .i64 d) := (Grown.cell g1 (by first | (simp; omega) | simp | omega)).trans (by simp [go_sem, *])
          have G1 : Grown w w1 := Grown.trans (by first | (go_grown; done) | exact Grown.drewN (by go_grown) _) g1
          have z1_w0 : w.heap.size < w1.heap.size := by omega
          clear g1
          go_wp2_with fail
          refine (T1.out _).mono ?_
          rintro e w2 ⟨rfl, g2⟩
          have z2 := (laid g2).2.2
          try simp at z2
          have q2_0 : w2.cell? ⟨w.heap.size, 0, none⟩ = some (.int .i64 a) := (Grown.cell g2 (by first | (simp; omega) | simp | omega)).trans (by simp [go_sem, *])
          have q2_1 : w2.cell? ⟨w.heap.size, 1, none⟩ = some (.int .i64 l) := (Grown.cell g2 (by first | (simp; omega) | simp | omega)).trans (by simp [go_sem, *])
          have q2_2 : w2.cell? ⟨w.heap.size, 2, none⟩ = some (.int .i64 h) := (Grown.cell g2 (by first | (simp; omega) | simp | omega)).trans (by simp [go_sem, *])
          have q2_3 : w2.cell? ⟨w.heap.size, 3, none⟩ = some (.int .i64 d) := (Grown.cell g2 (by first | (simp; omega) | simp | omega)).trans (by simp [go_sem, *])
          have G2 : Grown w w2 := Grown.trans (by first | (go_grown; done) | exact Grown.drewN (by go_grown) _) g2
          have z2_w0 : w.heap.size < w2.heap.size := by omega
          clear g2 q1_0 q1_1 q1_2 q1_3
          go_wp2_with fail
          refine (T2.out _).mono ?_
          rintro e w3 ⟨rfl, g3⟩
          have z3 := (laid g3).2.2
          try simp at z3
          have q3_0 : w3.cell? ⟨w.heap.size, 0, none⟩ = some (.int .i64 a) := (Grown.cell g3 (by first | (simp; omega) | simp | omega)).trans (by simp [go_sem, *])
          have q3_1 : w3.cell? ⟨w.heap.size, 1, none⟩ = some (.int .i64 l) := (Grown.cell g3 (by first | (simp; omega) | simp | omega)).trans (by simp [go_sem, *])
          have q3_2 : w3.cell? ⟨w.heap.size, 2, none⟩ = some (.int .i64 h) := (Grown.cell g3 (by first | (simp; omega) | simp | omega)).trans (by simp [go_sem, *])
          have q3_3 : w3.cell? ⟨w.heap.size, 3, none⟩ = some (.int .i64 d) := (Grown.cell g3 (by first | (simp; omega) | simp | omega)).trans (by simp [go_sem, *])
          have q3_4 : w3.cell? ⟨w2.heap.size, 0, none⟩ = some (.int .i64 0) := (Grown.cell g3 (by first | (simp; omega) | simp | omega)).trans (by simp [go_sem, *])
          have q3_5 : w3.cell? ⟨w2.heap.size, 1, none⟩ = some (.int .i64 0) := (Grown.cell g3 (by first | (simp; omega) | simp | omega)).trans (by simp [go_sem, *])
          have G3 : Grown w w3 := Grown.trans (by first | (go_grown; done) | exact Grown.drewN (by go_grown) _) g3
          have z3_w0 : w.heap.size < w3.heap.size := by omega
          have z3_w20 : w2.heap.size < w3.heap.size := by omega
          clear g3 q2_0 q2_1 q2_2 q2_3
          go_wp2_with fail
          go_ret
          exact ⟨by first | rfl | (simp; omega), by go_grown⟩
    · skip
      have T1 := Lib.hid (true_bad a l h d x · (fun t => hc t.1))
      have T2 := Lib.hid (true_bad a l h d y · (fun t => hc t.1))
      clear hc
      go_enter Try.func7, Try.ntmps7
      go_wp2_with fail
      refine (head_true _).mono ?_
      rintro e w1 ⟨rfl, g1⟩
      have z1 := (laid g1).2.2
      try simp at z1
      have q1_0 : w1.cell? ⟨w.heap.size, 0, none⟩ = some (.int .i64 a) := (Grown.cell g1 (by first | (simp; omega) | simp | omega)).trans (by simp [go_sem, *])
      have q1_1 : w1.cell? ⟨w.heap.size, 1, none⟩ = some (.int .i64 l) := (Grown.cell g1 (by first | (simp; omega) | simp | omega)).trans (by simp [go_sem, *])
      have q1_2 : w1.cell? ⟨w.heap.size, 2, none⟩ = some (.int .i64 h) := (Grown.cell g1 (by first | (simp; omega) | simp | omega)).trans (by simp [go_sem, *])
      have q1_3 : w1.cell? ⟨w.heap.size, 3, none⟩ = some (.int .i64 d) := (Grown.cell g1 (by first | (simp; omega) | simp | omega)).trans (by simp [go_sem, *])
      have G1 : Grown w w1 := Grown.trans (by first | (go_grown; done) | exact Grown.drewN (by go_grown) _) g1
      have z1_w0 : w.heap.size < w1.heap.size := by omega
      clear g1
      go_wp2_with fail
      refine (T1.out _).mono ?_
      rintro e w2 ⟨rfl, g2⟩
      have z2 := (laid g2).2.2
      try simp at z2
      have q2_0 : w2.cell? ⟨w.heap.size, 0, none⟩ = some (.int .i64 a) := (Grown.cell g2 (by first | (simp; omega) | simp | omega)).trans (by simp [go_sem, *])
      have q2_1 : w2.cell? ⟨w.heap.size, 1, none⟩ = some (.int .i64 l) := (Grown.cell g2 (by first | (simp; omega) | simp | omega)).trans (by simp [go_sem, *])
      have q2_2 : w2.cell? ⟨w.heap.size, 2, none⟩ = some (.int .i64 h) := (Grown.cell g2 (by first | (simp; omega) | simp | omega)).trans (by simp [go_sem, *])
      have q2_3 : w2.cell? ⟨w.heap.size, 3, none⟩ = some (.int .i64 d) := (Grown.cell g2 (by first | (simp; omega) | simp | omega)).trans (by simp [go_sem, *])
      have G2 : Grown w w2 := Grown.trans (by first | (go_grown; done) | exact Grown.drewN (by go_grown) _) g2
      have z2_w0 : w.heap.size < w2.heap.size := by omega
      clear g2 q1_0 q1_1 q1_2 q1_3
      go_wp2_with fail
      refine (T2.out _).mono ?_
      rintro e w3 ⟨rfl, g3⟩
      have z3 := (laid g3).2.2
      try simp at z3
      have q3_0 : w3.cell? ⟨w.heap.size, 0, none⟩ = some (.int .i64 a) := (Grown.cell g3 (by first | (simp; omega) | simp | omega)).trans (by simp [go_sem, *])
      have q3_1 : w3.cell? ⟨w.heap.size, 1, none⟩ = some (.int .i64 l) := (Grown.cell g3 (by first | (simp; omega) | simp | omega)).trans (by simp [go_sem, *])
      have q3_2 : w3.cell? ⟨w.heap.size, 2, none⟩ = some (.int .i64 h) := (Grown.cell g3 (by first | (simp; omega) | simp | omega)).trans (by simp [go_sem, *])
      have q3_3 : w3.cell? ⟨w.heap.size, 3, none⟩ = some (.int .i64 d) := (Grown.cell g3 (by first | (simp; omega) | simp | omega)).trans (by simp [go_sem, *])
      have q3_4 : w3.cell? ⟨w2.heap.size, 0, none⟩ = some (.int .i64 0) := (Grown.cell g3 (by first | (simp; omega) | simp | omega)).trans (by simp [go_sem, *])
      have q3_5 : w3.cell? ⟨w2.heap.size, 1, none⟩ = some (.int .i64 0) := (Grown.cell g3 (by first | (simp; omega) | simp | omega)).trans (by simp [go_sem, *])
      have G3 : Grown w w3 := Grown.trans (by first | (go_grown; done) | exact Grown.drewN (by go_grown) _) g3
      have z3_w0 : w.heap.size < w3.heap.size := by omega
      have z3_w20 : w2.heap.size < w3.heap.size := by omega
      clear g3 q2_0 q2_1 q2_2 q2_3
      go_wp2_with fail
      go_ret
      exact ⟨by first | rfl | (simp; omega), by go_grown⟩
set_option maxHeartbeats 4000000 in
theorem true_true (a l h d r off y : Int) (w : World) (ho : 0 ≤ off ∧ off ≤ 18446744073709551615) (hb : 0 ≤ y ∧ y ≤ 18446744073709551615) : Calls Try.prog 4 #[.agg #[.int .i64 a, .int .i64 l, .int .i64 h, .int .i64 d], .int .i64 r, .int .u64 off, .int .u64 y] w fun e w' => e = .returned (.bool true) ∧ Grown w w' := by
  by_cases hc : Cv a l h d
  · by_cases hr : Rd r
    · skip
      have V := Lib.hid (R.valid_yes a l h d · hc)
      have T1 := Lib.hid (true_ok a l h d r · hc hr)
      have TM : Hid (R.tm r = true) := Lib.hid (decide_eq_true hr)
      have FC := Lib.hid (follows_c a d r y · hc.1 hc.2.2 hr hb)
      obtain ⟨o0, o1⟩ := ho
      have e1 := Int.emod_nonneg off (b := h - l + 1) (by have := hc.2.1.2.1; omega)
      have e2 := Int.emod_lt_of_pos off (b := h - l + 1) (by have := hc.2.1.2.1; omega)
      obtain ⟨i1, i2⟩ := true_in y hc hr (f := l + off % (h - l + 1)) (by omega) (by omega)
      obtain ⟨b0, b1⟩ := nr_bd y (ms_bd hc.1 hc.2.2 hr).1
      have b2 := (ms_bd hc.1 hc.2.2 hr).2.1
      have IC : Hid (hs (tl a l d r) (th a h d r) (r + (l + off % (h - l + 1)) + nr y (ms d a r)) = true) := Lib.hid (decide_eq_true ⟨by omega, by omega⟩)
      obtain ⟨_, ⟨l0, l1, l2⟩, _⟩ := hc
      obtain ⟨r0, r1⟩ := hr
      clear hb i1 i2
      generalize nr y (ms d a r) = f at *
      generalize ms d a r = m at *
      generalize tl a l d r = p at *
      generalize th a h d r = q at *
      go_enter Try.func4, Try.ntmps4
      go_wp2_with fail
      refine (head_true _).mono ?_
      rintro e w1 ⟨rfl, g1⟩
      have z1 := (laid g1).2.2
      try simp at z1
      have q1_0 : w1.cell? ⟨w.heap.size, 0, none⟩ = some (.int .i64 a) := (Grown.cell g1 (by first | (simp; omega) | simp | omega)).trans (by simp [go_sem, *])
      have q1_1 : w1.cell? ⟨w.heap.size, 1, none⟩ = some (.int .i64 l) := (Grown.cell g1 (by first | (simp; omega) | simp | omega)).trans (by simp [go_sem, *])
      have q1_2 : w1.cell? ⟨w.heap.size, 2, none⟩ = some (.int .i64 h) := (Grown.cell g1 (by first | (simp; omega) | simp | omega)).trans (by simp [go_sem, *])
      have q1_3 : w1.cell? ⟨w.heap.size, 3, none⟩ = some (.int .i64 d) := (Grown.cell g1 (by first | (simp; omega) | simp | omega)).trans (by simp [go_sem, *])
      have G1 : Grown w w1 := Grown.trans (by first | (go_grown; done) | exact Grown.drewN (by go_grown) _) g1
      have z1_w0 : w.heap.size < w1.heap.size := by omega
      clear g1
      go_wp2_with fail
      refine (T1.out _).mono ?_
      rintro e w2 ⟨rfl, g2⟩
      have z2 := (laid g2).2.2
      try simp at z2
      have q2_0 : w2.cell? ⟨w.heap.size, 0, none⟩ = some (.int .i64 a) := (Grown.cell g2 (by first | (simp; omega) | simp | omega)).trans (by simp [go_sem, *])
      have q2_1 : w2.cell? ⟨w.heap.size, 1, none⟩ = some (.int .i64 l) := (Grown.cell g2 (by first | (simp; omega) | simp | omega)).trans (by simp [go_sem, *])
      have q2_2 : w2.cell? ⟨w.heap.size, 2, none⟩ = some (.int .i64 h) := (Grown.cell g2 (by first | (simp; omega) | simp | omega)).trans (by simp [go_sem, *])
      have q2_3 : w2.cell? ⟨w.heap.size, 3, none⟩ = some (.int .i64 d) := (Grown.cell g2 (by first | (simp; omega) | simp | omega)).trans (by simp [go_sem, *])
      have G2 : Grown w w2 := Grown.trans (by first | (go_grown; done) | exact Grown.drewN (by go_grown) _) g2
      have z2_w0 : w.heap.size < w2.heap.size := by omega
      clear g2 q1_0 q1_1 q1_2 q1_3
      go_wp2_with fail
      refine (V.out _).mono ?_
      rintro e w3 ⟨rfl, g3⟩
      have z3 := (laid g3).2.2
      try simp at z3
      have q3_0 : w3.cell? ⟨w.heap.size, 0, none⟩ = some (.int .i64 a) := (Grown.cell g3 (by first | (simp; omega) | simp | omega)).trans (by simp [go_sem, *])
      have q3_1 : w3.cell? ⟨w.heap.size, 1, none⟩ = some (.int .i64 l) := (Grown.cell g3 (by first | (simp; omega) | simp | omega)).trans (by simp [go_sem, *])
      have q3_2 : w3.cell? ⟨w.heap.size, 2, none⟩ = some (.int .i64 h) := (Grown.cell g3 (by first | (simp; omega) | simp | omega)).trans (by simp [go_sem, *])
      have q3_3 : w3.cell? ⟨w.heap.size, 3, none⟩ = some (.int .i64 d) := (Grown.cell g3 (by first | (simp; omega) | simp | omega)).trans (by simp [go_sem, *])
      have q3_4 : w3.cell? ⟨w2.heap.size, 0, none⟩ = some (.int .i64 p) := (Grown.cell g3 (by first | (simp; omega) | simp | omega)).trans (by simp [go_sem, *])
      have q3_5 : w3.cell? ⟨w2.heap.size, 1, none⟩ = some (.int .i64 q) := (Grown.cell g3 (by first | (simp; omega) | simp | omega)).trans (by simp [go_sem, *])
      have G3 : Grown w w3 := Grown.trans (by first | (go_grown; done) | exact Grown.drewN (by go_grown) _) g3
      have z3_w0 : w.heap.size < w3.heap.size := by omega
      have z3_w20 : w2.heap.size < w3.heap.size := by omega
      clear g3 q2_0 q2_1 q2_2 q2_3
      go_wp2_with fail
      refine (R.time_c _ _).mono ?_
      rintro e w' ⟨rfl, rfl⟩
      rw [TM.out]
      go_wp2_with fail
      go_quiet (fail)
      go_wp2_with fail
      refine (FC.out _).mono ?_
      rintro e w' ⟨rfl, rfl⟩
      go_wp2_with fail
      refine (refIn_any _ _ _ _).mono ?_
      rintro e w4 ⟨rfl, g4⟩
      have z4 := (laid g4).2.2
      try simp at z4
      have q4_0 : w4.cell? ⟨w.heap.size, 0, none⟩ = some (.int .i64 a) := (Grown.cell g4 (by first | (simp; omega) | simp | omega)).trans (by simp [go_sem, *])
      have q4_1 : w4.cell? ⟨w.heap.size, 1, none⟩ = some (.int .i64 l) := (Grown.cell g4 (by first | (simp; omega) | simp | omega)).trans (by simp [go_sem, *])
      have q4_2 : w4.cell? ⟨w.heap.size, 2, none⟩ = some (.int .i64 h) := (Grown.cell g4 (by first | (simp; omega) | simp | omega)).trans (by simp [go_sem, *])
      have q4_3 : w4.cell? ⟨w.heap.size, 3, none⟩ = some (.int .i64 d) := (Grown.cell g4 (by first | (simp; omega) | simp | omega)).trans (by simp [go_sem, *])
      have q4_4 : w4.cell? ⟨w2.heap.size, 0, none⟩ = some (.int .i64 p) := (Grown.cell g4 (by first | (simp; omega) | simp | omega)).trans (by simp [go_sem, *])
      have q4_5 : w4.cell? ⟨w2.heap.size, 1, none⟩ = some (.int .i64 q) := (Grown.cell g4 (by first | (simp; omega) | simp | omega)).trans (by simp [go_sem, *])
      have G4 : Grown w w4 := Grown.trans (by first | (go_grown; done) | exact Grown.drewN (by go_grown) _) g4
      have z4_w0 : w.heap.size < w4.heap.size := by omega
      have z4_w20 : w2.heap.size < w4.heap.size := by omega
      clear g4 q3_0 q3_1 q3_2 q3_3 q3_4 q3_5
      rw [IC.out]
      go_wp2_with fail
      go_ret
      exact ⟨by first | rfl | (simp; omega), by go_grown⟩
    · have hn : ¬ (Cv a l h d ∧ Rd r) := fun t => hr t.2
      have V := Lib.hid (R.valid_yes a l h d · hc)
      have T1 := Lib.hid (true_bad a l h d r · hn)
      have TM : Hid (R.tm r = false) := Lib.hid (decide_eq_false hr)
      clear hc hn hr
      go_enter Try.func4, Try.ntmps4
      go_wp2_with fail
      refine (head_true _).mono ?_
      rintro e w1 ⟨rfl, g1⟩
      have z1 := (laid g1).2.2
      try simp at z1
      have q1_0 : w1.cell? ⟨w.heap.size, 0, none⟩ = some (.int .i64 a) := (Grown.cell g1 (by first | (simp; omega) | simp | omega)).trans (by simp [go_sem, *])
      have q1_1 : w1.cell? ⟨w.heap.size, 1, none⟩ = some (.int .i64 l) := (Grown.cell g1 (by first | (simp; omega) | simp | omega)).trans (by simp [go_sem, *])
      have q1_2 : w1.cell? ⟨w.heap.size, 2, none⟩ = some (.int .i64 h) := (Grown.cell g1 (by first | (simp; omega) | simp | omega)).trans (by simp [go_sem, *])
      have q1_3 : w1.cell? ⟨w.heap.size, 3, none⟩ = some (.int .i64 d) := (Grown.cell g1 (by first | (simp; omega) | simp | omega)).trans (by simp [go_sem, *])
      have G1 : Grown w w1 := Grown.trans (by first | (go_grown; done) | exact Grown.drewN (by go_grown) _) g1
      have z1_w0 : w.heap.size < w1.heap.size := by omega
      clear g1
      go_wp2_with fail
      refine (T1.out _).mono ?_
      rintro e w2 ⟨rfl, g2⟩
      have z2 := (laid g2).2.2
      try simp at z2
      have q2_0 : w2.cell? ⟨w.heap.size, 0, none⟩ = some (.int .i64 a) := (Grown.cell g2 (by first | (simp; omega) | simp | omega)).trans (by simp [go_sem, *])
      have q2_1 : w2.cell? ⟨w.heap.size, 1, none⟩ = some (.int .i64 l) := (Grown.cell g2 (by first | (simp; omega) | simp | omega)).trans (by simp [go_sem, *])
      have q2_2 : w2.cell? ⟨w.heap.size, 2, none⟩ = some (.int .i64 h) := (Grown.cell g2 (by first | (simp; omega) | simp | omega)).trans (by simp [go_sem, *])
      have q2_3 : w2.cell? ⟨w.heap.size, 3, none⟩ = some (.int .i64 d) := (Grown.cell g2 (by first | (simp; omega) | simp | omega)).trans (by simp [go_sem, *])
      have G2 : Grown w w2 := Grown.trans (by first | (go_grown; done) | exact Grown.drewN (by go_grown) _) g2
      have z2_w0 : w.heap.size < w2.heap.size := by omega
      clear g2 q1_0 q1_1 q1_2 q1_3
      go_wp2_with fail
      refine (V.out _).mono ?_
      rintro e w3 ⟨rfl, g3⟩
      have z3 := (laid g3).2.2
      try simp at z3
      have q3_0 : w3.cell? ⟨w.heap.size, 0, none⟩ = some (.int .i64 a) := (Grown.cell g3 (by first | (simp; omega) | simp | omega)).trans (by simp [go_sem, *])
      have q3_1 : w3.cell? ⟨w.heap.size, 1, none⟩ = some (.int .i64 l) := (Grown.cell g3 (by first | (simp; omega) | simp | omega)).trans (by simp [go_sem, *])
      have q3_2 : w3.cell? ⟨w.heap.size, 2, none⟩ = some (.int .i64 h) := (Grown.cell g3 (by first | (simp; omega) | simp | omega)).trans (by simp [go_sem, *])
      have q3_3 : w3.cell? ⟨w.heap.size, 3, none⟩ = some (.int .i64 d) := (Grown.cell g3 (by first | (simp; omega) | simp | omega)).trans (by simp [go_sem, *])
      have q3_4 : w3.cell? ⟨w2.heap.size, 0, none⟩ = some (.int .i64 0) := (Grown.cell g3 (by first | (simp; omega) | simp | omega)).trans (by simp [go_sem, *])
      have q3_5 : w3.cell? ⟨w2.heap.size, 1, none⟩ = some (.int .i64 0) := (Grown.cell g3 (by first | (simp; omega) | simp | omega)).trans (by simp [go_sem, *])
      have G3 : Grown w w3 := Grown.trans (by first | (go_grown; done) | exact Grown.drewN (by go_grown) _) g3
      have z3_w0 : w.heap.size < w3.heap.size := by omega
      have z3_w20 : w2.heap.size < w3.heap.size := by omega
      clear g3 q2_0 q2_1 q2_2 q2_3
      go_wp2_with fail
      refine (R.time_c _ _).mono ?_
      rintro e w' ⟨rfl, rfl⟩
      rw [TM.out]
      go_wp2_with fail
      go_ret
      exact ⟨by first | rfl | (simp; omega), by go_grown⟩
  · have hn : ¬ (Cv a l h d ∧ Rd r) := fun t => hc t.1
    have V := Lib.hid (R.valid_no a l h d · hc)
    have T1 := Lib.hid (true_bad a l h d r · hn)
    clear hc hn
    go_enter Try.func4, Try.ntmps4
    go_wp2_with fail
    refine (head_true _).mono ?_
    rintro e w1 ⟨rfl, g1⟩
    have z1 := (laid g1).2.2
    try simp at z1
    have q1_0 : w1.cell? ⟨w.heap.size, 0, none⟩ = some (.int .i64 a) := (Grown.cell g1 (by first | (simp; omega) | simp | omega)).trans (by simp [go_sem, *])
    have q1_1 : w1.cell? ⟨w.heap.size, 1, none⟩ = some (.int .i64 l) := (Grown.cell g1 (by first | (simp; omega) | simp | omega)).trans (by simp [go_sem, *])
    have q1_2 : w1.cell? ⟨w.heap.size, 2, none⟩ = some (.int .i64 h) := (Grown.cell g1 (by first | (simp; omega) | simp | omega)).trans (by simp [go_sem, *])
    have q1_3 : w1.cell? ⟨w.heap.size, 3, none⟩ = some (.int .i64 d) := (Grown.cell g1 (by first | (simp; omega) | simp | omega)).trans (by simp [go_sem, *])
    have G1 : Grown w w1 := Grown.trans (by first | (go_grown; done) | exact Grown.drewN (by go_grown) _) g1
    have z1_w0 : w.heap.size < w1.heap.size := by omega
    clear g1
    go_wp2_with fail
    refine (T1.out _).mono ?_
    rintro e w2 ⟨rfl, g2⟩
    have z2 := (laid g2).2.2
    try simp at z2
    have q2_0 : w2.cell? ⟨w.heap.size, 0, none⟩ = some (.int .i64 a) := (Grown.cell g2 (by first | (simp; omega) | simp | omega)).trans (by simp [go_sem, *])
    have q2_1 : w2.cell? ⟨w.heap.size, 1, none⟩ = some (.int .i64 l) := (Grown.cell g2 (by first | (simp; omega) | simp | omega)).trans (by simp [go_sem, *])
    have q2_2 : w2.cell? ⟨w.heap.size, 2, none⟩ = some (.int .i64 h) := (Grown.cell g2 (by first | (simp; omega) | simp | omega)).trans (by simp [go_sem, *])
    have q2_3 : w2.cell? ⟨w.heap.size, 3, none⟩ = some (.int .i64 d) := (Grown.cell g2 (by first | (simp; omega) | simp | omega)).trans (by simp [go_sem, *])
    have G2 : Grown w w2 := Grown.trans (by first | (go_grown; done) | exact Grown.drewN (by go_grown) _) g2
    have z2_w0 : w.heap.size < w2.heap.size := by omega
    clear g2 q1_0 q1_1 q1_2 q1_3
    go_wp2_with fail
    refine (V.out _).mono ?_
    rintro e w3 ⟨rfl, g3⟩
    have z3 := (laid g3).2.2
    try simp at z3
    have q3_0 : w3.cell? ⟨w.heap.size, 0, none⟩ = some (.int .i64 a) := (Grown.cell g3 (by first | (simp; omega) | simp | omega)).trans (by simp [go_sem, *])
    have q3_1 : w3.cell? ⟨w.heap.size, 1, none⟩ = some (.int .i64 l) := (Grown.cell g3 (by first | (simp; omega) | simp | omega)).trans (by simp [go_sem, *])
    have q3_2 : w3.cell? ⟨w.heap.size, 2, none⟩ = some (.int .i64 h) := (Grown.cell g3 (by first | (simp; omega) | simp | omega)).trans (by simp [go_sem, *])
    have q3_3 : w3.cell? ⟨w.heap.size, 3, none⟩ = some (.int .i64 d) := (Grown.cell g3 (by first | (simp; omega) | simp | omega)).trans (by simp [go_sem, *])
    have q3_4 : w3.cell? ⟨w2.heap.size, 0, none⟩ = some (.int .i64 0) := (Grown.cell g3 (by first | (simp; omega) | simp | omega)).trans (by simp [go_sem, *])
    have q3_5 : w3.cell? ⟨w2.heap.size, 1, none⟩ = some (.int .i64 0) := (Grown.cell g3 (by first | (simp; omega) | simp | omega)).trans (by simp [go_sem, *])
    have G3 : Grown w w3 := Grown.trans (by first | (go_grown; done) | exact Grown.drewN (by go_grown) _) g3
    have z3_w0 : w.heap.size < w3.heap.size := by omega
    have z3_w20 : w2.heap.size < w3.heap.size := by omega
    clear g3 q2_0 q2_1 q2_2 q2_3
    go_wp2_with fail
    go_ret
    exact ⟨by first | rfl | (simp; omega), by go_grown⟩
end Ck
end Go.Proofs.Ytndabfpinkakbaa
