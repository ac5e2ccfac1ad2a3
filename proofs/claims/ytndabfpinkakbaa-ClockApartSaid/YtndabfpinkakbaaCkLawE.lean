/-
  The law ClockApart.
-/
import Derived.Test.YtndabfpinkakbaaCkHead
namespace Go.Proofs.Ytndabfpinkakbaa
open Go.RowKit Sn
namespace Ck
set_option maxRecDepth 100000
theorem own_set (a l h d m : Int) (w : World) (hc : Cv a l h d) (hm : 0 ≤ m ∧ m ≤ 65535) : Calls Try.prog 17 #[.agg #[.int .i64 a, .int .i64 l, .int .i64 h, .int .i64 d], .int .i64 a, .agg #[.int .i64 (tl a l d a - m), .int .i64 (th a h d a + m)]] w fun e w' => e = .returned (.tuple #[.agg #[.int .i64 a, .int .i64 l, .int .i64 h, .int .i64 d], .bool true, .int .i64 0]) ∧ Grown w w' := by
  obtain ⟨p0, p1, p2⟩ := t_bd hc hc.1
  have e1 : ml a l d a (tl a l d a - m) = tl a l d a := by unfold ml; rw [mx_max]; omega
  have e2 : mh a h d a (th a h d a + m) = th a h d a := by unfold mh; rw [mn_min]; omega
  have e3 : tl a l d a - a = l := by unfold tl; rw [wg_self]; omega
  have e4 : th a h d a - a = h := by unfold th; rw [wg_self]; omega
  have := set_ok a l h d a (tl a l d a - m) (th a h d a + m) w hc hc.1 ⟨by omega, by omega, by omega⟩ (by rw [e1, e2]; exact p1) (by rw [e1, e2, e3, e4]; exact hc.2.1)
  rwa [e1, e2, e3, e4] at this
set_option maxHeartbeats 4000000 in
theorem apart_true (a l h d r x y m : Int) (w : World) (hm : 0 ≤ m ∧ m ≤ 65535) : Calls Try.prog 9 #[.agg #[.int .i64 a, .int .i64 l, .int .i64 h, .int .i64 d], .int .i64 r, .agg #[.int .i64 x, .int .i64 y], .int .u16 m] w fun e w' => e = .returned (.bool true) ∧ Grown w w' := by
  by_cases hcr : Cv a l h d ∧ Rd r
  · obtain ⟨hc, hr⟩ := hcr
    by_cases hv : Vd x y
    · by_cases ho : ml a l d r x ≤ mh a h d r y
      · have k1 : x ≤ th a h d r := by
          unfold ml mh at ho
          rw [mx_max, mn_min] at ho
          omega
        have k2 : tl a l d r ≤ y := by
          unfold ml mh at ho
          rw [mx_max, mn_min] at ho
          omega
        by_cases hof : Of (ml a l d r x - r) (mh a h d r y - r)
        · skip
          have T1 := Lib.hid (true_ok a l h d r · hc hr)
          have SV := Lib.hid (spValid_yes x y · hv)
          have T3 := Lib.hid (true_ok a l h d a · hc hc.1)
          have S1 := Lib.hid (set_ok a l h d r x y · hc hr hv ho hof)
          have SO := Lib.hid (own_set a l h d m · hc hm)
          have pb := t_bd hc hc.1
          obtain ⟨m0, m1⟩ := hm
          obtain ⟨P0, P1, P2⟩ := pb
          clear hc hr hv ho hof
          generalize ml a l d r x = u at *
          generalize mh a h d r y = v at *
          generalize tl a l d a = P at *
          generalize th a h d a = Q at *
          generalize tl a l d r = p at *
          generalize th a h d r = q at *
          go_enter Try.func9, Try.ntmps9
          go_wp2_with fail
          refine (head_true _).mono ?_
          rintro e w1 ⟨rfl, g1⟩
          have z1 := (laid g1).2.2
          try simp at z1
          have q1_0 : w1.cell? ⟨w.heap.size, 0, none⟩ = some (.int .i64 a) := (Grown.cell g1 (by first | (simp; omega) | simp | omega)).trans (by simp [go_sem, *])
          have q1_1 : w1.cell? ⟨w.heap.size, 1, none⟩ = some (.int .i64 l) := (Grown.cell g1 (by first | (simp; omega) | simp | omega)).trans (by simp [go_sem, *])
          have q1_2 : w1.cell? ⟨w.heap.size, 2, none⟩ = some (.int .i64 h) := (Grown.cell g1 (by first | (simp; omega) | simp | omega)).trans (by simp [go_sem, *])
          have q1_3 : w1.cell? ⟨w.heap.size, 3, none⟩ = some (.int .i64 d) := (Grown.cell g1 (by first | (simp; omega) | simp | omega)).trans (by simp [go_sem, *])
          have q1_4 : w1.cell? ⟨w.heap.size + 1, 0, none⟩ = some (.int .i64 x) := (Grown.cell g1 (by first | (simp; omega) | simp | omega)).trans (by simp [go_sem, *])
          have q1_5 : w1.cell? ⟨w.heap.size + 1, 1, none⟩ = some (.int .i64 y) := (Grown.cell g1 (by first | (simp; omega) | simp | omega)).trans (by simp [go_sem, *])
          have G1 : Grown w w1 := Grown.trans (by first | (go_grown; done) | exact Grown.drewN (by go_grown) _) g1
          have z1_w0 : w.heap.size < w1.heap.size := by omega
          have z1_w1 : w.heap.size + 1 < w1.heap.size := by omega
          clear g1
          go_wp2_with fail
          refine (T1.out _).mono ?_
          rintro e w2 ⟨rfl, g2⟩
          have z2 := (laid g2).2.2
          try simp at z2
          have q2_0 : w2.cell? ⟨w.heap.size, 0, none⟩ = some (.int .i64 a) := (Grown.cell g2 (by first | (simp; omega) | simp | omega)).trans (by simp [go_sem, *])
          have q2_1 : w2.cell? ⟨w.heap.size, 1, none⟩ = some (.int .i64 l) := (Grown.cell g2 (by first | (simp; omega) | simp | omega)).trans (by simp [go_sem, *])
          have q2_2 : w2.cell? ⟨w.heap.size, 2, none⟩ = some (.int .i64 h) := (Grown.cell g2 (by first | (simp; omega) | simp | omega)).trans (by simp [go_sem, *])
          have q2_3 : w2.cell? ⟨w.heap.size, 3, none⟩ = some (.int .i64 d) := (Grown.cell g2 (by first | (simp; omega) | simp | omega)).trans (by simp [go_sem, *])
          have q2_4 : w2.cell? ⟨w.heap.size + 1, 0, none⟩ = some (.int .i64 x) := (Grown.cell g2 (by first | (simp; omega) | simp | omega)).trans (by simp [go_sem, *])
          have q2_5 : w2.cell? ⟨w.heap.size + 1, 1, none⟩ = some (.int .i64 y) := (Grown.cell g2 (by first | (simp; omega) | simp | omega)).trans (by simp [go_sem, *])
          have G2 : Grown w w2 := Grown.trans (by first | (go_grown; done) | exact Grown.drewN (by go_grown) _) g2
          have z2_w0 : w.heap.size < w2.heap.size := by omega
          have z2_w1 : w.heap.size + 1 < w2.heap.size := by omega
          clear g2 q1_0 q1_1 q1_2 q1_3 q1_4 q1_5
          go_wp2_with fail
          refine (SV.out _).mono ?_
          rintro e w3 ⟨rfl, g3⟩
          have z3 := (laid g3).2.2
          try simp at z3
          have q3_0 : w3.cell? ⟨w.heap.size, 0, none⟩ = some (.int .i64 a) := (Grown.cell g3 (by first | (simp; omega) | simp | omega)).trans (by simp [go_sem, *])
          have q3_1 : w3.cell? ⟨w.heap.size, 1, none⟩ = some (.int .i64 l) := (Grown.cell g3 (by first | (simp; omega) | simp | omega)).trans (by simp [go_sem, *])
          have q3_2 : w3.cell? ⟨w.heap.size, 2, none⟩ = some (.int .i64 h) := (Grown.cell g3 (by first | (simp; omega) | simp | omega)).trans (by simp [go_sem, *])
          have q3_3 : w3.cell? ⟨w.heap.size, 3, none⟩ = some (.int .i64 d) := (Grown.cell g3 (by first | (simp; omega) | simp | omega)).trans (by simp [go_sem, *])
          have q3_4 : w3.cell? ⟨w.heap.size + 1, 0, none⟩ = some (.int .i64 x) := (Grown.cell g3 (by first | (simp; omega) | simp | omega)).trans (by simp [go_sem, *])
          have q3_5 : w3.cell? ⟨w.heap.size + 1, 1, none⟩ = some (.int .i64 y) := (Grown.cell g3 (by first | (simp; omega) | simp | omega)).trans (by simp [go_sem, *])
          have q3_6 : w3.cell? ⟨w2.heap.size, 0, none⟩ = some (.int .i64 p) := (Grown.cell g3 (by first | (simp; omega) | simp | omega)).trans (by simp [go_sem, *])
          have q3_7 : w3.cell? ⟨w2.heap.size, 1, none⟩ = some (.int .i64 q) := (Grown.cell g3 (by first | (simp; omega) | simp | omega)).trans (by simp [go_sem, *])
          have G3 : Grown w w3 := Grown.trans (by first | (go_grown; done) | exact Grown.drewN (by go_grown) _) g3
          have z3_w0 : w.heap.size < w3.heap.size := by omega
          have z3_w1 : w.heap.size + 1 < w3.heap.size := by omega
          have z3_w20 : w2.heap.size < w3.heap.size := by omega
          clear g3 q2_0 q2_1 q2_2 q2_3 q2_4 q2_5
          go_wp2_with fail
          refine (S1.out _).mono ?_
          rintro e w4 ⟨rfl, g4⟩
          have z4 := (laid g4).2.2
          try simp at z4
          have q4_0 : w4.cell? ⟨w.heap.size, 0, none⟩ = some (.int .i64 a) := (Grown.cell g4 (by first | (simp; omega) | simp | omega)).trans (by simp [go_sem, *])
          have q4_1 : w4.cell? ⟨w.heap.size, 1, none⟩ = some (.int .i64 l) := (Grown.cell g4 (by first | (simp; omega) | simp | omega)).trans (by simp [go_sem, *])
          have q4_2 : w4.cell? ⟨w.heap.size, 2, none⟩ = some (.int .i64 h) := (Grown.cell g4 (by first | (simp; omega) | simp | omega)).trans (by simp [go_sem, *])
          have q4_3 : w4.cell? ⟨w.heap.size, 3, none⟩ = some (.int .i64 d) := (Grown.cell g4 (by first | (simp; omega) | simp | omega)).trans (by simp [go_sem, *])
          have q4_4 : w4.cell? ⟨w.heap.size + 1, 0, none⟩ = some (.int .i64 x) := (Grown.cell g4 (by first | (simp; omega) | simp | omega)).trans (by simp [go_sem, *])
          have q4_5 : w4.cell? ⟨w.heap.size + 1, 1, none⟩ = some (.int .i64 y) := (Grown.cell g4 (by first | (simp; omega) | simp | omega)).trans (by simp [go_sem, *])
          have q4_6 : w4.cell? ⟨w2.heap.size, 0, none⟩ = some (.int .i64 p) := (Grown.cell g4 (by first | (simp; omega) | simp | omega)).trans (by simp [go_sem, *])
          have q4_7 : w4.cell? ⟨w2.heap.size, 1, none⟩ = some (.int .i64 q) := (Grown.cell g4 (by first | (simp; omega) | simp | omega)).trans (by simp [go_sem, *])
          have G4 : Grown w w4 := Grown.trans (by first | (go_grown; done) | exact Grown.drewN (by go_grown) _) g4
          have z4_w0 : w.heap.size < w4.heap.size := by omega
          have z4_w1 : w.heap.size + 1 < w4.heap.size := by omega
          have z4_w20 : w2.heap.size < w4.heap.size := by omega
          clear g4 q3_0 q3_1 q3_2 q3_3 q3_4 q3_5 q3_6 q3_7
          go_wp2_with fail
          refine (T3.out _).mono ?_
          rintro e w5 ⟨rfl, g5⟩
          have z5 := (laid g5).2.2
          try simp at z5
          have q5_0 : w5.cell? ⟨w.heap.size, 0, none⟩ = some (.int .i64 a) := (Grown.cell g5 (by first | (simp; omega) | simp | omega)).trans (by simp [go_sem, *])
          have q5_1 : w5.cell? ⟨w.heap.size, 1, none⟩ = some (.int .i64 l) := (Grown.cell g5 (by first | (simp; omega) | simp | omega)).trans (by simp [go_sem, *])
          have q5_2 : w5.cell? ⟨w.heap.size, 2, none⟩ = some (.int .i64 h) := (Grown.cell g5 (by first | (simp; omega) | simp | omega)).trans (by simp [go_sem, *])
          have q5_3 : w5.cell? ⟨w.heap.size, 3, none⟩ = some (.int .i64 d) := (Grown.cell g5 (by first | (simp; omega) | simp | omega)).trans (by simp [go_sem, *])
          have q5_4 : w5.cell? ⟨w.heap.size + 1, 0, none⟩ = some (.int .i64 x) := (Grown.cell g5 (by first | (simp; omega) | simp | omega)).trans (by simp [go_sem, *])
          have q5_5 : w5.cell? ⟨w.heap.size + 1, 1, none⟩ = some (.int .i64 y) := (Grown.cell g5 (by first | (simp; omega) | simp | omega)).trans (by simp [go_sem, *])
          have q5_6 : w5.cell? ⟨w2.heap.size, 0, none⟩ = some (.int .i64 p) := (Grown.cell g5 (by first | (simp; omega) | simp | omega)).trans (by simp [go_sem, *])
          have q5_7 : w5.cell? ⟨w2.heap.size, 1, none⟩ = some (.int .i64 q) := (Grown.cell g5 (by first | (simp; omega) | simp | omega)).trans (by simp [go_sem, *])
          have G5 : Grown w w5 := Grown.trans (by first | (go_grown; done) | exact Grown.drewN (by go_grown) _) g5
          have z5_w0 : w.heap.size < w5.heap.size := by omega
          have z5_w1 : w.heap.size + 1 < w5.heap.size := by omega
          have z5_w20 : w2.heap.size < w5.heap.size := by omega
          have z5_w40 : w4.heap.size < w5.heap.size := by omega
          clear g5 q4_0 q4_1 q4_2 q4_3 q4_4 q4_5 q4_6 q4_7
          go_wp2_with fail
          refine (SO.out _).mono ?_
          rintro e w6 ⟨rfl, g6⟩
          have z6 := (laid g6).2.2
          try simp at z6
          have q6_0 : w6.cell? ⟨w.heap.size, 0, none⟩ = some (.int .i64 a) := (Grown.cell g6 (by first | (simp; omega) | simp | omega)).trans (by simp [go_sem, *])
          have q6_1 : w6.cell? ⟨w.heap.size, 1, none⟩ = some (.int .i64 l) := (Grown.cell g6 (by first | (simp; omega) | simp | omega)).trans (by simp [go_sem, *])
          have q6_2 : w6.cell? ⟨w.heap.size, 2, none⟩ = some (.int .i64 h) := (Grown.cell g6 (by first | (simp; omega) | simp | omega)).trans (by simp [go_sem, *])
          have q6_3 : w6.cell? ⟨w.heap.size, 3, none⟩ = some (.int .i64 d) := (Grown.cell g6 (by first | (simp; omega) | simp | omega)).trans (by simp [go_sem, *])
          have q6_4 : w6.cell? ⟨w5.heap.size, 0, none⟩ = some (.int .i64 (P - m)) := (Grown.cell g6 (by first | (simp; omega) | simp | omega)).trans (by simp [go_sem, *])
          have q6_5 : w6.cell? ⟨w5.heap.size, 1, none⟩ = some (.int .i64 (Q + m)) := (Grown.cell g6 (by first | (simp; omega) | simp | omega)).trans (by simp [go_sem, *])
          have G6 : Grown w w6 := Grown.trans (by first | (go_grown; done) | exact Grown.drewN (by go_grown) _) g6
          have z6_w0 : w.heap.size < w6.heap.size := by omega
          have z6_w1 : w.heap.size + 1 < w6.heap.size := by omega
          have z6_w20 : w2.heap.size < w6.heap.size := by omega
          have z6_w40 : w4.heap.size < w6.heap.size := by omega
          have z6_w50 : w5.heap.size < w6.heap.size := by omega
          clear g6 q5_0 q5_1 q5_2 q5_3 q5_4 q5_5 q5_6 q5_7
          go_wp2_with fail
          go_ret
          exact ⟨by first | rfl | (simp; omega), by go_grown⟩
        · skip
          have T1 := Lib.hid (true_ok a l h d r · hc hr)
          have SV := Lib.hid (spValid_yes x y · hv)
          have T3 := Lib.hid (true_ok a l h d a · hc hc.1)
          have S1 := Lib.hid (set_range a l h d r x y · hc hr hv ho hof)
          have SO := Lib.hid (own_set a l h d m · hc hm)
          have pb := t_bd hc hc.1
          obtain ⟨m0, m1⟩ := hm
          obtain ⟨P0, P1, P2⟩ := pb
          clear hc hr hv ho hof
          generalize tl a l d a = P at *
          generalize th a h d a = Q at *
          generalize tl a l d r = p at *
          generalize th a h d r = q at *
          go_enter Try.func9, Try.ntmps9
          go_wp2_with fail
          refine (head_true _).mono ?_
          rintro e w1 ⟨rfl, g1⟩
          have z1 := (laid g1).2.2
          try simp at z1
          have q1_0 : w1.cell? ⟨w.heap.size, 0, none⟩ = some (.int .i64 a) := (Grown.cell g1 (by first | (simp; omega) | simp | omega)).trans (by simp [go_sem, *])
          have q1_1 : w1.cell? ⟨w.heap.size, 1, none⟩ = some (.int .i64 l) := (Grown.cell g1 (by first | (simp; omega) | simp | omega)).trans (by simp [go_sem, *])
          have q1_2 : w1.cell? ⟨w.heap.size, 2, none⟩ = some (.int .i64 h) := (Grown.cell g1 (by first | (simp; omega) | simp | omega)).trans (by simp [go_sem, *])
          have q1_3 : w1.cell? ⟨w.heap.size, 3, none⟩ = some (.int .i64 d) := (Grown.cell g1 (by first | (simp; omega) | simp | omega)).trans (by simp [go_sem, *])
          have q1_4 : w1.cell? ⟨w.heap.size + 1, 0, none⟩ = some (.int .i64 x) := (Grown.cell g1 (by first | (simp; omega) | simp | omega)).trans (by simp [go_sem, *])
          have q1_5 : w1.cell? ⟨w.heap.size + 1, 1, none⟩ = some (.int .i64 y) := (Grown.cell g1 (by first | (simp; omega) | simp | omega)).trans (by simp [go_sem, *])
          have G1 : Grown w w1 := Grown.trans (by first | (go_grown; done) | exact Grown.drewN (by go_grown) _) g1
          have z1_w0 : w.heap.size < w1.heap.size := by omega
          have z1_w1 : w.heap.size + 1 < w1.heap.size := by omega
          clear g1
          go_wp2_with fail
          refine (T1.out _).mono ?_
          rintro e w2 ⟨rfl, g2⟩
          have z2 := (laid g2).2.2
          try simp at z2
          have q2_0 : w2.cell? ⟨w.heap.size, 0, none⟩ = some (.int .i64 a) := (Grown.cell g2 (by first | (simp; omega) | simp | omega)).trans (by simp [go_sem, *])
          have q2_1 : w2.cell? ⟨w.heap.size, 1, none⟩ = some (.int .i64 l) := (Grown.cell g2 (by first | (simp; omega) | simp | omega)).trans (by simp [go_sem, *])
          have q2_2 : w2.cell? ⟨w.heap.size, 2, none⟩ = some (.int .i64 h) := (Grown.cell g2 (by first | (simp; omega) | simp | omega)).trans (by simp [go_sem, *])
          have q2_3 : w2.cell? ⟨w.heap.size, 3, none⟩ = some (.int .i64 d) := (Grown.cell g2 (by first | (simp; omega) | simp | omega)).trans (by simp [go_sem, *])
          have q2_4 : w2.cell? ⟨w.heap.size + 1, 0, none⟩ = some (.int .i64 x) := (Grown.cell g2 (by first | (simp; omega) | simp | omega)).trans (by simp [go_sem, *])
          have q2_5 : w2.cell? ⟨w.heap.size + 1, 1, none⟩ = some (.int .i64 y) := (Grown.cell g2 (by first | (simp; omega) | simp | omega)).trans (by simp [go_sem, *])
          have G2 : Grown w w2 := Grown.trans (by first | (go_grown; done) | exact Grown.drewN (by go_grown) _) g2
          have z2_w0 : w.heap.size < w2.heap.size := by omega
          have z2_w1 : w.heap.size + 1 < w2.heap.size := by omega
          clear g2 q1_0 q1_1 q1_2 q1_3 q1_4 q1_5
          go_wp2_with fail
          refine (SV.out _).mono ?_
          rintro e w3 ⟨rfl, g3⟩
          have z3 := (laid g3).2.2
          try simp at z3
          have q3_0 : w3.cell? ⟨w.heap.size, 0, none⟩ = some (.int .i64 a) := (Grown.cell g3 (by first | (simp; omega) | simp | omega)).trans (by simp [go_sem, *])
          have q3_1 : w3.cell? ⟨w.heap.size, 1, none⟩ = some (.int .i64 l) := (Grown.cell g3 (by first | (simp; omega) | simp | omega)).trans (by simp [go_sem, *])
          have q3_2 : w3.cell? ⟨w.heap.size, 2, none⟩ = some (.int .i64 h) := (Grown.cell g3 (by first | (simp; omega) | simp | omega)).trans (by simp [go_sem, *])
          have q3_3 : w3.cell? ⟨w.heap.size, 3, none⟩ = some (.int .i64 d) := (Grown.cell g3 (by first | (simp; omega) | simp | omega)).trans (by simp [go_sem, *])
          have q3_4 : w3.cell? ⟨w.heap.size + 1, 0, none⟩ = some (.int .i64 x) := (Grown.cell g3 (by first | (simp; omega) | simp | omega)).trans (by simp [go_sem, *])
          have q3_5 : w3.cell? ⟨w.heap.size + 1, 1, none⟩ = some (.int .i64 y) := (Grown.cell g3 (by first | (simp; omega) | simp | omega)).trans (by simp [go_sem, *])
          have q3_6 : w3.cell? ⟨w2.heap.size, 0, none⟩ = some (.int .i64 p) := (Grown.cell g3 (by first | (simp; omega) | simp | omega)).trans (by simp [go_sem, *])
          have q3_7 : w3.cell? ⟨w2.heap.size, 1, none⟩ = some (.int .i64 q) := (Grown.cell g3 (by first | (simp; omega) | simp | omega)).trans (by simp [go_sem, *])
          have G3 : Grown w w3 := Grown.trans (by first | (go_grown; done) | exact Grown.drewN (by go_grown) _) g3
          have z3_w0 : w.heap.size < w3.heap.size := by omega
          have z3_w1 : w.heap.size + 1 < w3.heap.size := by omega
          have z3_w20 : w2.heap.size < w3.heap.size := by omega
          clear g3 q2_0 q2_1 q2_2 q2_3 q2_4 q2_5
          go_wp2_with fail
          refine (S1.out _).mono ?_
          rintro e w4 ⟨rfl, g4⟩
          have z4 := (laid g4).2.2
          try simp at z4
          have q4_0 : w4.cell? ⟨w.heap.size, 0, none⟩ = some (.int .i64 a) := (Grown.cell g4 (by first | (simp; omega) | simp | omega)).trans (by simp [go_sem, *])
          have q4_1 : w4.cell? ⟨w.heap.size, 1, none⟩ = some (.int .i64 l) := (Grown.cell g4 (by first | (simp; omega) | simp | omega)).trans (by simp [go_sem, *])
          have q4_2 : w4.cell? ⟨w.heap.size, 2, none⟩ = some (.int .i64 h) := (Grown.cell g4 (by first | (simp; omega) | simp | omega)).trans (by simp [go_sem, *])
          have q4_3 : w4.cell? ⟨w.heap.size, 3, none⟩ = some (.int .i64 d) := (Grown.cell g4 (by first | (simp; omega) | simp | omega)).trans (by simp [go_sem, *])
          have q4_4 : w4.cell? ⟨w.heap.size + 1, 0, none⟩ = some (.int .i64 x) := (Grown.cell g4 (by first | (simp; omega) | simp | omega)).trans (by simp [go_sem, *])
          have q4_5 : w4.cell? ⟨w.heap.size + 1, 1, none⟩ = some (.int .i64 y) := (Grown.cell g4 (by first | (simp; omega) | simp | omega)).trans (by simp [go_sem, *])
          have q4_6 : w4.cell? ⟨w2.heap.size, 0, none⟩ = some (.int .i64 p) := (Grown.cell g4 (by first | (simp; omega) | simp | omega)).trans (by simp [go_sem, *])
          have q4_7 : w4.cell? ⟨w2.heap.size, 1, none⟩ = some (.int .i64 q) := (Grown.cell g4 (by first | (simp; omega) | simp | omega)).trans (by simp [go_sem, *])
          have G4 : Grown w w4 := Grown.trans (by first | (go_grown; done) | exact Grown.drewN (by go_grown) _) g4
          have z4_w0 : w.heap.size < w4.heap.size := by omega
          have z4_w1 : w.heap.size + 1 < w4.heap.size := by omega
          have z4_w20 : w2.heap.size < w4.heap.size := by omega
          clear g4 q3_0 q3_1 q3_2 q3_3 q3_4 q3_5 q3_6 q3_7
          go_wp2_with fail
          refine (T3.out _).mono ?_
          rintro e w5 ⟨rfl, g5⟩
          have z5 := (laid g5).2.2
          try simp at z5
          have q5_0 : w5.cell? ⟨w.heap.size, 0, none⟩ = some (.int .i64 a) := (Grown.cell g5 (by first | (simp; omega) | simp | omega)).trans (by simp [go_sem, *])
          have q5_1 : w5.cell? ⟨w.heap.size, 1, none⟩ = some (.int .i64 l) := (Grown.cell g5 (by first | (simp; omega) | simp | omega)).trans (by simp [go_sem, *])
          have q5_2 : w5.cell? ⟨w.heap.size, 2, none⟩ = some (.int .i64 h) := (Grown.cell g5 (by first | (simp; omega) | simp | omega)).trans (by simp [go_sem, *])
          have q5_3 : w5.cell? ⟨w.heap.size, 3, none⟩ = some (.int .i64 d) := (Grown.cell g5 (by first | (simp; omega) | simp | omega)).trans (by simp [go_sem, *])
          have q5_4 : w5.cell? ⟨w.heap.size + 1, 0, none⟩ = some (.int .i64 x) := (Grown.cell g5 (by first | (simp; omega) | simp | omega)).trans (by simp [go_sem, *])
          have q5_5 : w5.cell? ⟨w.heap.size + 1, 1, none⟩ = some (.int .i64 y) := (Grown.cell g5 (by first | (simp; omega) | simp | omega)).trans (by simp [go_sem, *])
          have q5_6 : w5.cell? ⟨w2.heap.size, 0, none⟩ = some (.int .i64 p) := (Grown.cell g5 (by first | (simp; omega) | simp | omega)).trans (by simp [go_sem, *])
          have q5_7 : w5.cell? ⟨w2.heap.size, 1, none⟩ = some (.int .i64 q) := (Grown.cell g5 (by first | (simp; omega) | simp | omega)).trans (by simp [go_sem, *])
          have G5 : Grown w w5 := Grown.trans (by first | (go_grown; done) | exact Grown.drewN (by go_grown) _) g5
          have z5_w0 : w.heap.size < w5.heap.size := by omega
          have z5_w1 : w.heap.size + 1 < w5.heap.size := by omega
          have z5_w20 : w2.heap.size < w5.heap.size := by omega
          have z5_w40 : w4.heap.size < w5.heap.size := by omega
          clear g5 q4_0 q4_1 q4_2 q4_3 q4_4 q4_5 q4_6 q4_7
          go_wp2_with fail
          refine (SO.out _).mono ?_
          rintro e w6 ⟨rfl, g6⟩
          have z6 := (laid g6).2.2
          try simp at z6
          have q6_0 : w6.cell? ⟨w.heap.size, 0, none⟩ = some (.int .i64 a) := (Grown.cell g6 (by first | (simp; omega) | simp | omega)).trans (by simp [go_sem, *])
          have q6_1 : w6.cell? ⟨w.heap.size, 1, none⟩ = some (.int .i64 l) := (Grown.cell g6 (by first | (simp; omega) | simp | omega)).trans (by simp [go_sem, *])
          have q6_2 : w6.cell? ⟨w.heap.size, 2, none⟩ = some (.int .i64 h) := (Grown.cell g6 (by first | (simp; omega) | simp | omega)).trans (by simp [go_sem, *])
          have q6_3 : w6.cell? ⟨w.heap.size, 3, none⟩ = some (.int .i64 d) := (Grown.cell g6 (by first | (simp; omega) | simp | omega)).trans (by simp [go_sem, *])
          have q6_4 : w6.cell? ⟨w5.heap.size, 0, none⟩ = some (.int .i64 (P - m)) := (Grown.cell g6 (by first | (simp; omega) | simp | omega)).trans (by simp [go_sem, *])
          have q6_5 : w6.cell? ⟨w5.heap.size, 1, none⟩ = some (.int .i64 (Q + m)) := (Grown.cell g6 (by first | (simp; omega) | simp | omega)).trans (by simp [go_sem, *])
          have G6 : Grown w w6 := Grown.trans (by first | (go_grown; done) | exact Grown.drewN (by go_grown) _) g6
          have z6_w0 : w.heap.size < w6.heap.size := by omega
          have z6_w1 : w.heap.size + 1 < w6.heap.size := by omega
          have z6_w20 : w2.heap.size < w6.heap.size := by omega
          have z6_w40 : w4.heap.size < w6.heap.size := by omega
          have z6_w50 : w5.heap.size < w6.heap.size := by omega
          clear g6 q5_0 q5_1 q5_2 q5_3 q5_4 q5_5 q5_6 q5_7
          go_wp2_with fail
          go_ret
          exact ⟨by first | rfl | (simp; omega), by go_grown⟩
      · have hb := t_bd hc hr
        have hv2 := hv.2.1
        have ho' : mh a h d r y < ml a l d r x := by omega
        by_cases hk : th a h d r < x
        · clear hb
          have T1 := Lib.hid (true_ok a l h d r · hc hr)
          have SV := Lib.hid (spValid_yes x y · hv)
          have T3 := Lib.hid (true_ok a l h d a · hc hc.1)
          have S1 := Lib.hid (set_apart a l h d r x y · hc hr hv ho')
          have SO := Lib.hid (own_set a l h d m · hc hm)
          have pb := t_bd hc hc.1
          obtain ⟨m0, m1⟩ := hm
          obtain ⟨P0, P1, P2⟩ := pb
          clear hc hr hv ho ho'
          generalize tl a l d a = P at *
          generalize th a h d a = Q at *
          generalize tl a l d r = p at *
          generalize th a h d r = q at *
          go_enter Try.func9, Try.ntmps9
          go_wp2_with fail
          refine (head_true _).mono ?_
          rintro e w1 ⟨rfl, g1⟩
          have z1 := (laid g1).2.2
          try simp at z1
          have q1_0 : w1.cell? ⟨w.heap.size, 0, none⟩ = some (.int .i64 a) := (Grown.cell g1 (by first | (simp; omega) | simp | omega)).trans (by simp [go_sem, *])
          have q1_1 : w1.cell? ⟨w.heap.size, 1, none⟩ = some (.int .i64 l) := (Grown.cell g1 (by first | (simp; omega) | simp | omega)).trans (by simp [go_sem, *])
          have q1_2 : w1.cell? ⟨w.heap.size, 2, none⟩ = some (.int .i64 h) := (Grown.cell g1 (by first | (simp; omega) | simp | omega)).trans (by simp [go_sem, *])
          have q1_3 : w1.cell? ⟨w.heap.size, 3, none⟩ = some (.int .i64 d) := (Grown.cell g1 (by first | (simp; omega) | simp | omega)).trans (by simp [go_sem, *])
          have q1_4 : w1.cell? ⟨w.heap.size + 1, 0, none⟩ = some (.int .i64 x) := (Grown.cell g1 (by first | (simp; omega) | simp | omega)).trans (by simp [go_sem, *])
          have q1_5 : w1.cell? ⟨w.heap.size + 1, 1, none⟩ = some (.int .i64 y) := (Grown.cell g1 (by first | (simp; omega) | simp | omega)).trans (by simp [go_sem, *])
          have G1 : Grown w w1 := Grown.trans (by first | (go_grown; done) | exact Grown.drewN (by go_grown) _) g1
          have z1_w0 : w.heap.size < w1.heap.size := by omega
          have z1_w1 : w.heap.size + 1 < w1.heap.size := by omega
          clear g1
          go_wp2_with fail
          refine (T1.out _).mono ?_
          rintro e w2 ⟨rfl, g2⟩
          have z2 := (laid g2).2.2
          try simp at z2
          have q2_0 : w2.cell? ⟨w.heap.size, 0, none⟩ = some (.int .i64 a) := (Grown.cell g2 (by first | (simp; omega) | simp | omega)).trans (by simp [go_sem, *])
          have q2_1 : w2.cell? ⟨w.heap.size, 1, none⟩ = some (.int .i64 l) := (Grown.cell g2 (by first | (simp; omega) | simp | omega)).trans (by simp [go_sem, *])
          have q2_2 : w2.cell? ⟨w.heap.size, 2, none⟩ = some (.int .i64 h) := (Grown.cell g2 (by first | (simp; omega) | simp | omega)).trans (by simp [go_sem, *])
          have q2_3 : w2.cell? ⟨w.heap.size, 3, none⟩ = some (.int .i64 d) := (Grown.cell g2 (by first | (simp; omega) | simp | omega)).trans (by simp [go_sem, *])
          have q2_4 : w2.cell? ⟨w.heap.size + 1, 0, none⟩ = some (.int .i64 x) := (Grown.cell g2 (by first | (simp; omega) | simp | omega)).trans (by simp [go_sem, *])
          have q2_5 : w2.cell? ⟨w.heap.size + 1, 1, none⟩ = some (.int .i64 y) := (Grown.cell g2 (by first | (simp; omega) | simp | omega)).trans (by simp [go_sem, *])
          have G2 : Grown w w2 := Grown.trans (by first | (go_grown; done) | exact Grown.drewN (by go_grown) _) g2
          have z2_w0 : w.heap.size < w2.heap.size := by omega
          have z2_w1 : w.heap.size + 1 < w2.heap.size := by omega
          clear g2 q1_0 q1_1 q1_2 q1_3 q1_4 q1_5
          go_wp2_with fail
          refine (SV.out _).mono ?_
          rintro e w3 ⟨rfl, g3⟩
          have z3 := (laid g3).2.2
          try simp at z3
          have q3_0 : w3.cell? ⟨w.heap.size, 0, none⟩ = some (.int .i64 a) := (Grown.cell g3 (by first | (simp; omega) | simp | omega)).trans (by simp [go_sem, *])
          have q3_1 : w3.cell? ⟨w.heap.size, 1, none⟩ = some (.int .i64 l) := (Grown.cell g3 (by first | (simp; omega) | simp | omega)).trans (by simp [go_sem, *])
          have q3_2 : w3.cell? ⟨w.heap.size, 2, none⟩ = some (.int .i64 h) := (Grown.cell g3 (by first | (simp; omega) | simp | omega)).trans (by simp [go_sem, *])
          have q3_3 : w3.cell? ⟨w.heap.size, 3, none⟩ = some (.int .i64 d) := (Grown.cell g3 (by first | (simp; omega) | simp | omega)).trans (by simp [go_sem, *])
          have q3_4 : w3.cell? ⟨w.heap.size + 1, 0, none⟩ = some (.int .i64 x) := (Grown.cell g3 (by first | (simp; omega) | simp | omega)).trans (by simp [go_sem, *])
          have q3_5 : w3.cell? ⟨w.heap.size + 1, 1, none⟩ = some (.int .i64 y) := (Grown.cell g3 (by first | (simp; omega) | simp | omega)).trans (by simp [go_sem, *])
          have q3_6 : w3.cell? ⟨w2.heap.size, 0, none⟩ = some (.int .i64 p) := (Grown.cell g3 (by first | (simp; omega) | simp | omega)).trans (by simp [go_sem, *])
          have q3_7 : w3.cell? ⟨w2.heap.size, 1, none⟩ = some (.int .i64 q) := (Grown.cell g3 (by first | (simp; omega) | simp | omega)).trans (by simp [go_sem, *])
          have G3 : Grown w w3 := Grown.trans (by first | (go_grown; done) | exact Grown.drewN (by go_grown) _) g3
          have z3_w0 : w.heap.size < w3.heap.size := by omega
          have z3_w1 : w.heap.size + 1 < w3.heap.size := by omega
          have z3_w20 : w2.heap.size < w3.heap.size := by omega
          clear g3 q2_0 q2_1 q2_2 q2_3 q2_4 q2_5
          go_wp2_with fail
          refine (S1.out _).mono ?_
          rintro e w4 ⟨rfl, g4⟩
          have z4 := (laid g4).2.2
          try simp at z4
          have q4_0 : w4.cell? ⟨w.heap.size, 0, none⟩ = some (.int .i64 a) := (Grown.cell g4 (by first | (simp; omega) | simp | omega)).trans (by simp [go_sem, *])
          have q4_1 : w4.cell? ⟨w.heap.size, 1, none⟩ = some (.int .i64 l) := (Grown.cell g4 (by first | (simp; omega) | simp | omega)).trans (by simp [go_sem, *])
          have q4_2 : w4.cell? ⟨w.heap.size, 2, none⟩ = some (.int .i64 h) := (Grown.cell g4 (by first | (simp; omega) | simp | omega)).trans (by simp [go_sem, *])
          have q4_3 : w4.cell? ⟨w.heap.size, 3, none⟩ = some (.int .i64 d) := (Grown.cell g4 (by first | (simp; omega) | simp | omega)).trans (by simp [go_sem, *])
          have q4_4 : w4.cell? ⟨w.heap.size + 1, 0, none⟩ = some (.int .i64 x) := (Grown.cell g4 (by first | (simp; omega) | simp | omega)).trans (by simp [go_sem, *])
          have q4_5 : w4.cell? ⟨w.heap.size + 1, 1, none⟩ = some (.int .i64 y) := (Grown.cell g4 (by first | (simp; omega) | simp | omega)).trans (by simp [go_sem, *])
          have q4_6 : w4.cell? ⟨w2.heap.size, 0, none⟩ = some (.int .i64 p) := (Grown.cell g4 (by first | (simp; omega) | simp | omega)).trans (by simp [go_sem, *])
          have q4_7 : w4.cell? ⟨w2.heap.size, 1, none⟩ = some (.int .i64 q) := (Grown.cell g4 (by first | (simp; omega) | simp | omega)).trans (by simp [go_sem, *])
          have G4 : Grown w w4 := Grown.trans (by first | (go_grown; done) | exact Grown.drewN (by go_grown) _) g4
          have z4_w0 : w.heap.size < w4.heap.size := by omega
          have z4_w1 : w.heap.size + 1 < w4.heap.size := by omega
          have z4_w20 : w2.heap.size < w4.heap.size := by omega
          clear g4 q3_0 q3_1 q3_2 q3_3 q3_4 q3_5 q3_6 q3_7
          go_wp2_with fail
          refine (T3.out _).mono ?_
          rintro e w5 ⟨rfl, g5⟩
          have z5 := (laid g5).2.2
          try simp at z5
          have q5_0 : w5.cell? ⟨w.heap.size, 0, none⟩ = some (.int .i64 a) := (Grown.cell g5 (by first | (simp; omega) | simp | omega)).trans (by simp [go_sem, *])
          have q5_1 : w5.cell? ⟨w.heap.size, 1, none⟩ = some (.int .i64 l) := (Grown.cell g5 (by first | (simp; omega) | simp | omega)).trans (by simp [go_sem, *])
          have q5_2 : w5.cell? ⟨w.heap.size, 2, none⟩ = some (.int .i64 h) := (Grown.cell g5 (by first | (simp; omega) | simp | omega)).trans (by simp [go_sem, *])
          have q5_3 : w5.cell? ⟨w.heap.size, 3, none⟩ = some (.int .i64 d) := (Grown.cell g5 (by first | (simp; omega) | simp | omega)).trans (by simp [go_sem, *])
          have q5_4 : w5.cell? ⟨w.heap.size + 1, 0, none⟩ = some (.int .i64 x) := (Grown.cell g5 (by first | (simp; omega) | simp | omega)).trans (by simp [go_sem, *])
          have q5_5 : w5.cell? ⟨w.heap.size + 1, 1, none⟩ = some (.int .i64 y) := (Grown.cell g5 (by first | (simp; omega) | simp | omega)).trans (by simp [go_sem, *])
          have q5_6 : w5.cell? ⟨w2.heap.size, 0, none⟩ = some (.int .i64 p) := (Grown.cell g5 (by first | (simp; omega) | simp | omega)).trans (by simp [go_sem, *])
          have q5_7 : w5.cell? ⟨w2.heap.size, 1, none⟩ = some (.int .i64 q) := (Grown.cell g5 (by first | (simp; omega) | simp | omega)).trans (by simp [go_sem, *])
          have G5 : Grown w w5 := Grown.trans (by first | (go_grown; done) | exact Grown.drewN (by go_grown) _) g5
          have z5_w0 : w.heap.size < w5.heap.size := by omega
          have z5_w1 : w.heap.size + 1 < w5.heap.size := by omega
          have z5_w20 : w2.heap.size < w5.heap.size := by omega
          have z5_w40 : w4.heap.size < w5.heap.size := by omega
          clear g5 q4_0 q4_1 q4_2 q4_3 q4_4 q4_5 q4_6 q4_7
          go_wp2_with fail
          refine (SO.out _).mono ?_
          rintro e w6 ⟨rfl, g6⟩
          have z6 := (laid g6).2.2
          try simp at z6
          have q6_0 : w6.cell? ⟨w.heap.size, 0, none⟩ = some (.int .i64 a) := (Grown.cell g6 (by first | (simp; omega) | simp | omega)).trans (by simp [go_sem, *])
          have q6_1 : w6.cell? ⟨w.heap.size, 1, none⟩ = some (.int .i64 l) := (Grown.cell g6 (by first | (simp; omega) | simp | omega)).trans (by simp [go_sem, *])
          have q6_2 : w6.cell? ⟨w.heap.size, 2, none⟩ = some (.int .i64 h) := (Grown.cell g6 (by first | (simp; omega) | simp | omega)).trans (by simp [go_sem, *])
          have q6_3 : w6.cell? ⟨w.heap.size, 3, none⟩ = some (.int .i64 d) := (Grown.cell g6 (by first | (simp; omega) | simp | omega)).trans (by simp [go_sem, *])
          have q6_4 : w6.cell? ⟨w5.heap.size, 0, none⟩ = some (.int .i64 (P - m)) := (Grown.cell g6 (by first | (simp; omega) | simp | omega)).trans (by simp [go_sem, *])
          have q6_5 : w6.cell? ⟨w5.heap.size, 1, none⟩ = some (.int .i64 (Q + m)) := (Grown.cell g6 (by first | (simp; omega) | simp | omega)).trans (by simp [go_sem, *])
          have G6 : Grown w w6 := Grown.trans (by first | (go_grown; done) | exact Grown.drewN (by go_grown) _) g6
          have z6_w0 : w.heap.size < w6.heap.size := by omega
          have z6_w1 : w.heap.size + 1 < w6.heap.size := by omega
          have z6_w20 : w2.heap.size < w6.heap.size := by omega
          have z6_w40 : w4.heap.size < w6.heap.size := by omega
          have z6_w50 : w5.heap.size < w6.heap.size := by omega
          clear g6 q5_0 q5_1 q5_2 q5_3 q5_4 q5_5 q5_6 q5_7
          go_wp2_with fail
          go_ret
          exact ⟨by first | rfl | (simp; omega), by go_grown⟩
        · have k2 : y < tl a l d r := by
            unfold ml mh at ho
            rw [mx_max, mn_min] at ho
            omega
          clear hb
          have T1 := Lib.hid (true_ok a l h d r · hc hr)
          have SV := Lib.hid (spValid_yes x y · hv)
          have T3 := Lib.hid (true_ok a l h d a · hc hc.1)
          have S1 := Lib.hid (set_apart a l h d r x y · hc hr hv ho')
          have SO := Lib.hid (own_set a l h d m · hc hm)
          have pb := t_bd hc hc.1
          obtain ⟨m0, m1⟩ := hm
          obtain ⟨P0, P1, P2⟩ := pb
          clear hc hr hv ho ho'
          generalize tl a l d a = P at *
          generalize th a h d a = Q at *
          generalize tl a l d r = p at *
          generalize th a h d r = q at *
          go_enter Try.func9, Try.ntmps9
          go_wp2_with fail
          refine (head_true _).mono ?_
          rintro e w1 ⟨rfl, g1⟩
          have z1 := (laid g1).2.2
          try simp at z1
          have q1_0 : w1.cell? ⟨w.heap.size, 0, none⟩ = some (.int .i64 a) := (Grown.cell g1 (by first | (simp; omega) | simp | omega)).trans (by simp [go_sem, *])
          have q1_1 : w1.cell? ⟨w.heap.size, 1, none⟩ = some (.int .i64 l) := (Grown.cell g1 (by first | (simp; omega) | simp | omega)).trans (by simp [go_sem, *])
          have q1_2 : w1.cell? ⟨w.heap.size, 2, none⟩ = some (.int .i64 h) := (Grown.cell g1 (by first | (simp; omega) | simp | omega)).trans (by simp [go_sem, *])
          have q1_3 : w1.cell? ⟨w.heap.size, 3, none⟩ = some (.int .i64 d) := (Grown.cell g1 (by first | (simp; omega) | simp | omega)).trans (by simp [go_sem, *])
          have q1_4 : w1.cell? ⟨w.heap.size + 1, 0, none⟩ = some (.int .i64 x) := (Grown.cell g1 (by first | (simp; omega) | simp | omega)).trans (by simp [go_sem, *])
          have q1_5 : w1.cell? ⟨w.heap.size + 1, 1, none⟩ = some (.int .i64 y) := (Grown.cell g1 (by first | (simp; omega) | simp | omega)).trans (by simp [go_sem, *])
          have G1 : Grown w w1 := Grown.trans (by first | (go_grown; done) | exact Grown.drewN (by go_grown) _) g1
          have z1_w0 : w.heap.size < w1.heap.size := by omega
          have z1_w1 : w.heap.size + 1 < w1.heap.size := by omega
          clear g1
          go_wp2_with fail
          refine (T1.out _).mono ?_
          rintro e w2 ⟨rfl, g2⟩
          have z2 := (laid g2).2.2
          try simp at z2
          have q2_0 : w2.cell? ⟨w.heap.size, 0, none⟩ = some (.int .i64 a) := (Grown.cell g2 (by first | (simp; omega) | simp | omega)).trans (by simp [go_sem, *])
          have q2_1 : w2.cell? ⟨w.heap.size, 1, none⟩ = some (.int .i64 l) := (Grown.cell g2 (by first | (simp; omega) | simp | omega)).trans (by simp [go_sem, *])
          have q2_2 : w2.cell? ⟨w.heap.size, 2, none⟩ = some (.int .i64 h) := (Grown.cell g2 (by first | (simp; omega) | simp | omega)).trans (by simp [go_sem, *])
          have q2_3 : w2.cell? ⟨w.heap.size, 3, none⟩ = some (.int .i64 d) := (Grown.cell g2 (by first | (simp; omega) | simp | omega)).trans (by simp [go_sem, *])
          have q2_4 : w2.cell? ⟨w.heap.size + 1, 0, none⟩ = some (.int .i64 x) := (Grown.cell g2 (by first | (simp; omega) | simp | omega)).trans (by simp [go_sem, *])
          have q2_5 : w2.cell? ⟨w.heap.size + 1, 1, none⟩ = some (.int .i64 y) := (Grown.cell g2 (by first | (simp; omega) | simp | omega)).trans (by simp [go_sem, *])
          have G2 : Grown w w2 := Grown.trans (by first | (go_grown; done) | exact Grown.drewN (by go_grown) _) g2
          have z2_w0 : w.heap.size < w2.heap.size := by omega
          have z2_w1 : w.heap.size + 1 < w2.heap.size := by omega
          clear g2 q1_0 q1_1 q1_2 q1_3 q1_4 q1_5
          go_wp2_with fail
          refine (SV.out _).mono ?_
          rintro e w3 ⟨rfl, g3⟩
          have z3 := (laid g3).2.2
          try simp at z3
          have q3_0 : w3.cell? ⟨w.heap.size, 0, none⟩ = some (.int .i64 a) := (Grown.cell g3 (by first | (simp; omega) | simp | omega)).trans (by simp [go_sem, *])
          have q3_1 : w3.cell? ⟨w.heap.size, 1, none⟩ = some (.int .i64 l) := (Grown.cell g3 (by first | (simp; omega) | simp | omega)).trans (by simp [go_sem, *])
          have q3_2 : w3.cell? ⟨w.heap.size, 2, none⟩ = some (.int .i64 h) := (Grown.cell g3 (by first | (simp; omega) | simp | omega)).trans (by simp [go_sem, *])
          have q3_3 : w3.cell? ⟨w.heap.size, 3, none⟩ = some (.int .i64 d) := (Grown.cell g3 (by first | (simp; omega) | simp | omega)).trans (by simp [go_sem, *])
          have q3_4 : w3.cell? ⟨w.heap.size + 1, 0, none⟩ = some (.int .i64 x) := (Grown.cell g3 (by first | (simp; omega) | simp | omega)).trans (by simp [go_sem, *])
          have q3_5 : w3.cell? ⟨w.heap.size + 1, 1, none⟩ = some (.int .i64 y) := (Grown.cell g3 (by first | (simp; omega) | simp | omega)).trans (by simp [go_sem, *])
          have q3_6 : w3.cell? ⟨w2.heap.size, 0, none⟩ = some (.int .i64 p) := (Grown.cell g3 (by first | (simp; omega) | simp | omega)).trans (by simp [go_sem, *])
          have q3_7 : w3.cell? ⟨w2.heap.size, 1, none⟩ = some (.int .i64 q) := (Grown.cell g3 (by first | (simp; omega) | simp | omega)).trans (by simp [go_sem, *])
          have G3 : Grown w w3 := Grown.trans (by first | (go_grown; done) | exact Grown.drewN (by go_grown) _) g3
          have z3_w0 : w.heap.size < w3.heap.size := by omega
          have z3_w1 : w.heap.size + 1 < w3.heap.size := by omega
          have z3_w20 : w2.heap.size < w3.heap.size := by omega
          clear g3 q2_0 q2_1 q2_2 q2_3 q2_4 q2_5
          go_wp2_with fail
          refine (S1.out _).mono ?_
          rintro e w4 ⟨rfl, g4⟩
          have z4 := (laid g4).2.2
          try simp at z4
          have q4_0 : w4.cell? ⟨w.heap.size, 0, none⟩ = some (.int .i64 a) := (Grown.cell g4 (by first | (simp; omega) | simp | omega)).trans (by simp [go_sem, *])
          have q4_1 : w4.cell? ⟨w.heap.size, 1, none⟩ = some (.int .i64 l) := (Grown.cell g4 (by first | (simp; omega) | simp | omega)).trans (by simp [go_sem, *])
          have q4_2 : w4.cell? ⟨w.heap.size, 2, none⟩ = some (.int .i64 h) := (Grown.cell g4 (by first | (simp; omega) | simp | omega)).trans (by simp [go_sem, *])
          have q4_3 : w4.cell? ⟨w.heap.size, 3, none⟩ = some (.int .i64 d) := (Grown.cell g4 (by first | (simp; omega) | simp | omega)).trans (by simp [go_sem, *])
          have q4_4 : w4.cell? ⟨w.heap.size + 1, 0, none⟩ = some (.int .i64 x) := (Grown.cell g4 (by first | (simp; omega) | simp | omega)).trans (by simp [go_sem, *])
          have q4_5 : w4.cell? ⟨w.heap.size + 1, 1, none⟩ = some (.int .i64 y) := (Grown.cell g4 (by first | (simp; omega) | simp | omega)).trans (by simp [go_sem, *])
          have q4_6 : w4.cell? ⟨w2.heap.size, 0, none⟩ = some (.int .i64 p) := (Grown.cell g4 (by first | (simp; omega) | simp | omega)).trans (by simp [go_sem, *])
          have q4_7 : w4.cell? ⟨w2.heap.size, 1, none⟩ = some (.int .i64 q) := (Grown.cell g4 (by first | (simp; omega) | simp | omega)).trans (by simp [go_sem, *])
          have G4 : Grown w w4 := Grown.trans (by first | (go_grown; done) | exact Grown.drewN (by go_grown) _) g4
          have z4_w0 : w.heap.size < w4.heap.size := by omega
          have z4_w1 : w.heap.size + 1 < w4.heap.size := by omega
          have z4_w20 : w2.heap.size < w4.heap.size := by omega
          clear g4 q3_0 q3_1 q3_2 q3_3 q3_4 q3_5 q3_6 q3_7
          go_wp2_with fail
          refine (T3.out _).mono ?_
          rintro e w5 ⟨rfl, g5⟩
          have z5 := (laid g5).2.2
          try simp at z5
          have q5_0 : w5.cell? ⟨w.heap.size, 0, none⟩ = some (.int .i64 a) := (Grown.cell g5 (by first | (simp; omega) | simp | omega)).trans (by simp [go_sem, *])
          have q5_1 : w5.cell? ⟨w.heap.size, 1, none⟩ = some (.int .i64 l) := (Grown.cell g5 (by first | (simp; omega) | simp | omega)).trans (by simp [go_sem, *])
          have q5_2 : w5.cell? ⟨w.heap.size, 2, none⟩ = some (.int .i64 h) := (Grown.cell g5 (by first | (simp; omega) | simp | omega)).trans (by simp [go_sem, *])
          have q5_3 : w5.cell? ⟨w.heap.size, 3, none⟩ = some (.int .i64 d) := (Grown.cell g5 (by first | (simp; omega) | simp | omega)).trans (by simp [go_sem, *])
          have q5_4 : w5.cell? ⟨w.heap.size + 1, 0, none⟩ = some (.int .i64 x) := (Grown.cell g5 (by first | (simp; omega) | simp | omega)).trans (by simp [go_sem, *])
          have q5_5 : w5.cell? ⟨w.heap.size + 1, 1, none⟩ = some (.int .i64 y) := (Grown.cell g5 (by first | (simp; omega) | simp | omega)).trans (by simp [go_sem, *])
          have q5_6 : w5.cell? ⟨w2.heap.size, 0, none⟩ = some (.int .i64 p) := (Grown.cell g5 (by first | (simp; omega) | simp | omega)).trans (by simp [go_sem, *])
          have q5_7 : w5.cell? ⟨w2.heap.size, 1, none⟩ = some (.int .i64 q) := (Grown.cell g5 (by first | (simp; omega) | simp | omega)).trans (by simp [go_sem, *])
          have G5 : Grown w w5 := Grown.trans (by first | (go_grown; done) | exact Grown.drewN (by go_grown) _) g5
          have z5_w0 : w.heap.size < w5.heap.size := by omega
          have z5_w1 : w.heap.size + 1 < w5.heap.size := by omega
          have z5_w20 : w2.heap.size < w5.heap.size := by omega
          have z5_w40 : w4.heap.size < w5.heap.size := by omega
          clear g5 q4_0 q4_1 q4_2 q4_3 q4_4 q4_5 q4_6 q4_7
          go_wp2_with fail
          refine (SO.out _).mono ?_
          rintro e w6 ⟨rfl, g6⟩
          have z6 := (laid g6).2.2
          try simp at z6
          have q6_0 : w6.cell? ⟨w.heap.size, 0, none⟩ = some (.int .i64 a) := (Grown.cell g6 (by first | (simp; omega) | simp | omega)).trans (by simp [go_sem, *])
          have q6_1 : w6.cell? ⟨w.heap.size, 1, none⟩ = some (.int .i64 l) := (Grown.cell g6 (by first | (simp; omega) | simp | omega)).trans (by simp [go_sem, *])
          have q6_2 : w6.cell? ⟨w.heap.size, 2, none⟩ = some (.int .i64 h) := (Grown.cell g6 (by first | (simp; omega) | simp | omega)).trans (by simp [go_sem, *])
          have q6_3 : w6.cell? ⟨w.heap.size, 3, none⟩ = some (.int .i64 d) := (Grown.cell g6 (by first | (simp; omega) | simp | omega)).trans (by simp [go_sem, *])
          have q6_4 : w6.cell? ⟨w5.heap.size, 0, none⟩ = some (.int .i64 (P - m)) := (Grown.cell g6 (by first | (simp; omega) | simp | omega)).trans (by simp [go_sem, *])
          have q6_5 : w6.cell? ⟨w5.heap.size, 1, none⟩ = some (.int .i64 (Q + m)) := (Grown.cell g6 (by first | (simp; omega) | simp | omega)).trans (by simp [go_sem, *])
          have G6 : Grown w w6 := Grown.trans (by first | (go_grown; done) | exact Grown.drewN (by go_grown) _) g6
          have z6_w0 : w.heap.size < w6.heap.size := by omega
          have z6_w1 : w.heap.size + 1 < w6.heap.size := by omega
          have z6_w20 : w2.heap.size < w6.heap.size := by omega
          have z6_w40 : w4.heap.size < w6.heap.size := by omega
          have z6_w50 : w5.heap.size < w6.heap.size := by omega
          clear g6 q5_0 q5_1 q5_2 q5_3 q5_4 q5_5 q5_6 q5_7
          go_wp2_with fail
          go_ret
          exact ⟨by first | rfl | (simp; omega), by go_grown⟩
    · skip
      have T1 := Lib.hid (true_ok a l h d r · hc hr)
      have SV := Lib.hid (spValid_no x y · hv)
      clear hc hr hv
      generalize tl a l d r = p at *
      generalize th a h d r = q at *
      go_enter Try.func9, Try.ntmps9
      go_wp2_with fail
      refine (head_true _).mono ?_
      rintro e w1 ⟨rfl, g1⟩
      have z1 := (laid g1).2.2
      try simp at z1
      have q1_0 : w1.cell? ⟨w.heap.size, 0, none⟩ = some (.int .i64 a) := (Grown.cell g1 (by first | (simp; omega) | simp | omega)).trans (by simp [go_sem, *])
      have q1_1 : w1.cell? ⟨w.heap.size, 1, none⟩ = some (.int .i64 l) := (Grown.cell g1 (by first | (simp; omega) | simp | omega)).trans (by simp [go_sem, *])
      have q1_2 : w1.cell? ⟨w.heap.size, 2, none⟩ = some (.int .i64 h) := (Grown.cell g1 (by first | (simp; omega) | simp | omega)).trans (by simp [go_sem, *])
      have q1_3 : w1.cell? ⟨w.heap.size, 3, none⟩ = some (.int .i64 d) := (Grown.cell g1 (by first | (simp; omega) | simp | omega)).trans (by simp [go_sem, *])
      have q1_4 : w1.cell? ⟨w.heap.size + 1, 0, none⟩ = some (.int .i64 x) := (Grown.cell g1 (by first | (simp; omega) | simp | omega)).trans (by simp [go_sem, *])
      have q1_5 : w1.cell? ⟨w.heap.size + 1, 1, none⟩ = some (.int .i64 y) := (Grown.cell g1 (by first | (simp; omega) | simp | omega)).trans (by simp [go_sem, *])
      have G1 : Grown w w1 := Grown.trans (by first | (go_grown; done) | exact Grown.drewN (by go_grown) _) g1
      have z1_w0 : w.heap.size < w1.heap.size := by omega
      have z1_w1 : w.heap.size + 1 < w1.heap.size := by omega
      clear g1
      go_wp2_with fail
      refine (T1.out _).mono ?_
      rintro e w2 ⟨rfl, g2⟩
      have z2 := (laid g2).2.2
      try simp at z2
      have q2_0 : w2.cell? ⟨w.heap.size, 0, none⟩ = some (.int .i64 a) := (Grown.cell g2 (by first | (simp; omega) | simp | omega)).trans (by simp [go_sem, *])
      have q2_1 : w2.cell? ⟨w.heap.size, 1, none⟩ = some (.int .i64 l) := (Grown.cell g2 (by first | (simp; omega) | simp | omega)).trans (by simp [go_sem, *])
      have q2_2 : w2.cell? ⟨w.heap.size, 2, none⟩ = some (.int .i64 h) := (Grown.cell g2 (by first | (simp; omega) | simp | omega)).trans (by simp [go_sem, *])
      have q2_3 : w2.cell? ⟨w.heap.size, 3, none⟩ = some (.int .i64 d) := (Grown.cell g2 (by first | (simp; omega) | simp | omega)).trans (by simp [go_sem, *])
      have q2_4 : w2.cell? ⟨w.heap.size + 1, 0, none⟩ = some (.int .i64 x) := (Grown.cell g2 (by first | (simp; omega) | simp | omega)).trans (by simp [go_sem, *])
      have q2_5 : w2.cell? ⟨w.heap.size + 1, 1, none⟩ = some (.int .i64 y) := (Grown.cell g2 (by first | (simp; omega) | simp | omega)).trans (by simp [go_sem, *])
      have G2 : Grown w w2 := Grown.trans (by first | (go_grown; done) | exact Grown.drewN (by go_grown) _) g2
      have z2_w0 : w.heap.size < w2.heap.size := by omega
      have z2_w1 : w.heap.size + 1 < w2.heap.size := by omega
      clear g2 q1_0 q1_1 q1_2 q1_3 q1_4 q1_5
      go_wp2_with fail
      refine (SV.out _).mono ?_
      rintro e w3 ⟨rfl, g3⟩
      have z3 := (laid g3).2.2
      try simp at z3
      have q3_0 : w3.cell? ⟨w.heap.size, 0, none⟩ = some (.int .i64 a) := (Grown.cell g3 (by first | (simp; omega) | simp | omega)).trans (by simp [go_sem, *])
      have q3_1 : w3.cell? ⟨w.heap.size, 1, none⟩ = some (.int .i64 l) := (Grown.cell g3 (by first | (simp; omega) | simp | omega)).trans (by simp [go_sem, *])
      have q3_2 : w3.cell? ⟨w.heap.size, 2, none⟩ = some (.int .i64 h) := (Grown.cell g3 (by first | (simp; omega) | simp | omega)).trans (by simp [go_sem, *])
      have q3_3 : w3.cell? ⟨w.heap.size, 3, none⟩ = some (.int .i64 d) := (Grown.cell g3 (by first | (simp; omega) | simp | omega)).trans (by simp [go_sem, *])
      have q3_4 : w3.cell? ⟨w.heap.size + 1, 0, none⟩ = some (.int .i64 x) := (Grown.cell g3 (by first | (simp; omega) | simp | omega)).trans (by simp [go_sem, *])
      have q3_5 : w3.cell? ⟨w.heap.size + 1, 1, none⟩ = some (.int .i64 y) := (Grown.cell g3 (by first | (simp; omega) | simp | omega)).trans (by simp [go_sem, *])
      have q3_6 : w3.cell? ⟨w2.heap.size, 0, none⟩ = some (.int .i64 p) := (Grown.cell g3 (by first | (simp; omega) | simp | omega)).trans (by simp [go_sem, *])
      have q3_7 : w3.cell? ⟨w2.heap.size, 1, none⟩ = some (.int .i64 q) := (Grown.cell g3 (by first | (simp; omega) | simp | omega)).trans (by simp [go_sem, *])
      have G3 : Grown w w3 := Grown.trans (by first | (go_grown; done) | exact Grown.drewN (by go_grown) _) g3
      have z3_w0 : w.heap.size < w3.heap.size := by omega
      have z3_w1 : w.heap.size + 1 < w3.heap.size := by omega
      have z3_w20 : w2.heap.size < w3.heap.size := by omega
      clear g3 q2_0 q2_1 q2_2 q2_3 q2_4 q2_5
      go_wp2_with fail
      go_ret
      exact ⟨by first | rfl | (simp; omega), by go_grown⟩
  · skip
    have T1 := Lib.hid (true_bad a l h d r · hcr)
    clear hcr
    go_enter Try.func9, Try.ntmps9
    go_wp2_with fail
    refine (head_true _).mono ?_
    rintro e w1 ⟨rfl, g1⟩
    have z1 := (laid g1).2.2
    try simp at z1
    have q1_0 : w1.cell? ⟨w.heap.size, 0, none⟩ = some (.int .i64 a) := (Grown.cell g1 (by first | (simp; omega) | simp | omega)).trans (by simp [go_sem, *])
    have q1_1 : w1.cell? ⟨w.heap.size, 1, none⟩ = some (.int .i64 l) := (Grown.cell g1 (by first | (simp; omega) | simp | omega)).trans (by simp [go_sem, *])
    have q1_2 : w1.cell? ⟨w.heap.size, 2, none⟩ = some (.int .i64 h) := (Grown.cell g1 (by first | (simp; omega) | simp | omega)).trans (by simp [go_sem, *])
    have q1_3 : w1.cell? ⟨w.heap.size, 3, none⟩ = some (.int .i64 d) := (Grown.cell g1 (by first | (simp; omega) | simp | omega)).trans (by simp [go_sem, *])
    have q1_4 : w1.cell? ⟨w.heap.size + 1, 0, none⟩ = some (.int .i64 x) := (Grown.cell g1 (by first | (simp; omega) | simp | omega)).trans (by simp [go_sem, *])
    have q1_5 : w1.cell? ⟨w.heap.size + 1, 1, none⟩ = some (.int .i64 y) := (Grown.cell g1 (by first | (simp; omega) | simp | omega)).trans (by simp [go_sem, *])
    have G1 : Grown w w1 := Grown.trans (by first | (go_grown; done) | exact Grown.drewN (by go_grown) _) g1
    have z1_w0 : w.heap.size < w1.heap.size := by omega
    have z1_w1 : w.heap.size + 1 < w1.heap.size := by omega
    clear g1
    go_wp2_with fail
    refine (T1.out _).mono ?_
    rintro e w2 ⟨rfl, g2⟩
    have z2 := (laid g2).2.2
    try simp at z2
    have q2_0 : w2.cell? ⟨w.heap.size, 0, none⟩ = some (.int .i64 a) := (Grown.cell g2 (by first | (simp; omega) | simp | omega)).trans (by simp [go_sem, *])
    have q2_1 : w2.cell? ⟨w.heap.size, 1, none⟩ = some (.int .i64 l) := (Grown.cell g2 (by first | (simp; omega) | simp | omega)).trans (by simp [go_sem, *])
    have q2_2 : w2.cell? ⟨w.heap.size, 2, none⟩ = some (.int .i64 h) := (Grown.cell g2 (by first | (simp; omega) | simp | omega)).trans (by simp [go_sem, *])
    have q2_3 : w2.cell? ⟨w.heap.size, 3, none⟩ = some (.int .i64 d) := (Grown.cell g2 (by first | (simp; omega) | simp | omega)).trans (by simp [go_sem, *])
    have q2_4 : w2.cell? ⟨w.heap.size + 1, 0, none⟩ = some (.int .i64 x) := (Grown.cell g2 (by first | (simp; omega) | simp | omega)).trans (by simp [go_sem, *])
    have q2_5 : w2.cell? ⟨w.heap.size + 1, 1, none⟩ = some (.int .i64 y) := (Grown.cell g2 (by first | (simp; omega) | simp | omega)).trans (by simp [go_sem, *])
    have G2 : Grown w w2 := Grown.trans (by first | (go_grown; done) | exact Grown.drewN (by go_grown) _) g2
    have z2_w0 : w.heap.size < w2.heap.size := by omega
    have z2_w1 : w.heap.size + 1 < w2.heap.size := by omega
    clear g2 q1_0 q1_1 q1_2 q1_3 q1_4 q1_5
    go_wp2_with fail
    go_ret
    exact ⟨by first | rfl | (simp; omega), by go_grown⟩
end Ck
end Go.Proofs.Ytndabfpinkakbaa
