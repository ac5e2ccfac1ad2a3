/-
  The law ClockSets.
-/
import Derived.Test.YtndabfpinkakbaaCkLawA
namespace Go.Proofs.Ytndabfpinkakbaa
open Go.RowKit Sn
namespace Ck
set_option maxRecDepth 100000
set_option maxHeartbeats 4000000 in
theorem sets_true (a l h d r x y t n y' : Int) (w : World) (hn : 0 ≤ n ∧ n ≤ 18446744073709551615) (hb : 0 ≤ y' ∧ y' ≤ 18446744073709551615) : Calls Try.prog 6 #[.agg #[.int .i64 a, .int .i64 l, .int .i64 h, .int .i64 d], .int .i64 r, .agg #[.int .i64 x, .int .i64 y], .int .i64 t, .int .u64 n, .int .u64 y'] w fun e w' => e = .returned (.bool true) ∧ Grown w w' := by
  by_cases hcr : Cv a l h d ∧ Rd r ∧ Vd x y
  · obtain ⟨hc, hr, hv⟩ := hcr
    by_cases ho : ml a l d r x ≤ mh a h d r y
    · by_cases hof : Of (ml a l d r x - r) (mh a h d r y - r)
      · by_cases ht : Rd t
        · skip
          have S1 := Lib.hid (set_ok a l h d r x y · hc hr hv ho hof)
          have RV := Lib.hid (R.valid_yes a l h d · hc)
          have T1 := Lib.hid (true_ok a l h d r · hc hr)
          have ME : Hid (∀ W : World, Calls Try.prog 22 #[.agg #[.int .i64 (tl a l d r), .int .i64 (th a h d r)], .agg #[.int .i64 x, .int .i64 y]] W fun e w' => e = .returned (.tuple #[.agg #[.int .i64 (ml a l d r x), .int .i64 (mh a h d r y)], .bool true, .int .i64 0]) ∧ Grown W w') := Lib.hid (fun W => spMeet_ok (tl a l d r) (th a h d r) x y W ⟨t_vd hc hr, hv⟩ ho)
          have hc2 : Cv r (ml a l d r x - r) (mh a h d r y - r) d := ⟨hr, hof, hc.2.2⟩
          have T2 := Lib.hid (true_ok r (ml a l d r x - r) (mh a h d r y - r) d r · hc2 hr)
          have E1 : tl r (ml a l d r x - r) d r = ml a l d r x := by unfold tl; rw [wg_self]; omega
          have E2 : th r (mh a h d r y - r) d r = mh a h d r y := by unfold th; rw [wg_self]; omega
          rw [E1, E2] at T2
          clear E1 E2
          have V2 := Lib.hid (valid_yes r (ml a l d r x - r) (mh a h d r y - r) d · hc2)
          have bd := t_bd hc hr
          have u0 : -2000000 ≤ ml a l d r x := by unfold ml; rw [mx_max]; omega
          have v0 : mh a h d r y ≤ 1002000000 := by unfold mh; rw [mn_min]; omega
          have T3 := Lib.hid (true_ok r (ml a l d r x - r) (mh a h d r y - r) d t · hc2 ht)
          have FC := Lib.hid (follows_c r d t y' · hr hc.2.2 ht hb)
          obtain ⟨f0, f1⟩ := nr_bd y' (ms_bd hr hc.2.2 ht).1
          have f2 := (ms_bd hr hc.2.2 ht).2.1
          generalize ml a l d r x = u at *
          generalize mh a h d r y = v at *
          have e1 := Int.emod_nonneg n (b := v - u + 1) (by omega)
          have e2 := Int.emod_lt_of_pos n (b := v - u + 1) (by omega)
          obtain ⟨n0, n1⟩ := hn
          obtain ⟨g, hg⟩ : ∃ g, n % (v - u + 1) = g := ⟨_, rfl⟩
          rw [hg] at e1 e2
          obtain ⟨i1, i2⟩ := true_in y' hc2 ht (f := u + g - r) (by omega) (by omega)
          have IC : Hid (hs (tl r (u - r) d t) (th r (v - r) d t) (u + g + t - r + nr y' (ms d r t)) = true) := Lib.hid (decide_eq_true ⟨by omega, by omega⟩)
          clear i1 i2 hb
          have hr' : Rd r := hr
          obtain ⟨r0, r1⟩ := hr'
          have ht' : Rd t := ht
          obtain ⟨t0, t1⟩ := ht'
          clear hc hr hv hof hc2 bd ht
          generalize nr y' (ms d r t) = f at *
          generalize ms d r t = mm at *
          generalize tl r (u - r) d t = p2 at *
          generalize th r (v - r) d t = q2 at *
          have WA : IntKind.i64.wrap (u + g + t) = u + g + t := IntWalk.i64_in _ ⟨by omega, by omega⟩
          have WB : IntKind.i64.wrap (u + g + t - r) = u + g + t - r := IntWalk.i64_in _ ⟨by omega, by omega⟩
          have WC : IntKind.i64.wrap (u + g + t - r + f) = u + g + t - r + f := IntWalk.i64_in _ ⟨by omega, by omega⟩
          generalize tl a l d r = p at *
          generalize th a h d r = q at *
          go_enter Try.func6, Try.ntmps6
          go_wp2_with fail
          refine (head_true _).mono ?_
          rintro e w1 ⟨rfl, g1⟩
          have z1 := (laid g1).2.2
          try simp at z1
          have q1_0 : w1.cell? ⟨w.heap.size, 0, none⟩ = some (.int .i64 a) := (Grown.cell g1 (by first | (simp; omega) | simp | omega)).trans (by simp [go_sem, *])
          have q1_1 : w1.cell? ⟨w.heap.size, 1, none⟩ = some (.int .i64 l) := (Grown.cell g1 (by first | (simp; omega) | simp | omega)).trans (by simp [go_sem, *])
          have q1_2 : w1.cell? ⟨w.heap.size, 2, none⟩ = some (.int .i64 h) := (Grown.cell g1 (by first | (simp; omega) | simp | omega)).trans (by simp [go_sem, *])
          have q1_3 : w1.cell? ⟨w.heap.size, 3, none⟩ = some (.int .i64 d) := (Grown.cell g1 (by first | (simp; omega) | simp | omega)).trans (by simp [go_sem, *])
          have q1_4 : w1.cell? ⟨w.heap.size + 1, 0, none⟩ = some (.int .i64 x) := (Grown.cell g1 (by first | (simp; omega) | simp | omega)).trans (by simp [go_sem, *])
          have q1_5 : w1.cell? ⟨w.heap.size + 1, 1, none⟩ = some (.int .i64 y) := (Grown.cell g1 (by first | (simp; omega) | simp | omega)).trans (by simp [go_sem, *])
          have G1 : Grown w w1 := Grown.trans (by first | (go_grown; done) | exact Grown.drewN (by go_grown) _) g1
          have z1_w0 : w.heap.size < w1.heap.size := by omega
          have z1_w1 : w.heap.size + 1 < w1.heap.size := by omega
          clear g1
          go_wp2_with fail
          refine (S1.out _).mono ?_
          rintro e w2 ⟨rfl, g2⟩
          have z2 := (laid g2).2.2
          try simp at z2
          have q2_0 : w2.cell? ⟨w.heap.size, 0, none⟩ = some (.int .i64 a) := (Grown.cell g2 (by first | (simp; omega) | simp | omega)).trans (by simp [go_sem, *])
          have q2_1 : w2.cell? ⟨w.heap.size, 1, none⟩ = some (.int .i64 l) := (Grown.cell g2 (by first | (simp; omega) | simp | omega)).trans (by simp [go_sem, *])
          have q2_2 : w2.cell? ⟨w.heap.size, 2, none⟩ = some (.int .i64 h) := (Grown.cell g2 (by first | (simp; omega) | simp | omega)).trans (by simp [go_sem, *])
          have q2_3 : w2.cell? ⟨w.heap.size, 3, none⟩ = some (.int .i64 d) := (Grown.cell g2 (by first | (simp; omega) | simp | omega)).trans (by simp [go_sem, *])
          have q2_4 : w2.cell? ⟨w.heap.size + 1, 0, none⟩ = some (.int .i64 x) := (Grown.cell g2 (by first | (simp; omega) | simp | omega)).trans (by simp [go_sem, *])
          have q2_5 : w2.cell? ⟨w.heap.size + 1, 1, none⟩ = some (.int .i64 y) := (Grown.cell g2 (by first | (simp; omega) | simp | omega)).trans (by simp [go_sem, *])
          have G2 : Grown w w2 := Grown.trans (by first | (go_grown; done) | exact Grown.drewN (by go_grown) _) g2
          have z2_w0 : w.heap.size < w2.heap.size := by omega
          have z2_w1 : w.heap.size + 1 < w2.heap.size := by omega
          clear g2 q1_0 q1_1 q1_2 q1_3 q1_4 q1_5
          go_wp2_with fail
          refine (RV.out _).mono ?_
          rintro e w3 ⟨rfl, g3⟩
          have z3 := (laid g3).2.2
          try simp at z3
          have q3_0 : w3.cell? ⟨w.heap.size, 0, none⟩ = some (.int .i64 a) := (Grown.cell g3 (by first | (simp; omega) | simp | omega)).trans (by simp [go_sem, *])
          have q3_1 : w3.cell? ⟨w.heap.size, 1, none⟩ = some (.int .i64 l) := (Grown.cell g3 (by first | (simp; omega) | simp | omega)).trans (by simp [go_sem, *])
          have q3_2 : w3.cell? ⟨w.heap.size, 2, none⟩ = some (.int .i64 h) := (Grown.cell g3 (by first | (simp; omega) | simp | omega)).trans (by simp [go_sem, *])
          have q3_3 : w3.cell? ⟨w.heap.size, 3, none⟩ = some (.int .i64 d) := (Grown.cell g3 (by first | (simp; omega) | simp | omega)).trans (by simp [go_sem, *])
          have q3_4 : w3.cell? ⟨w.heap.size + 1, 0, none⟩ = some (.int .i64 x) := (Grown.cell g3 (by first | (simp; omega) | simp | omega)).trans (by simp [go_sem, *])
          have q3_5 : w3.cell? ⟨w.heap.size + 1, 1, none⟩ = some (.int .i64 y) := (Grown.cell g3 (by first | (simp; omega) | simp | omega)).trans (by simp [go_sem, *])
          have q3_6 : w3.cell? ⟨w2.heap.size, 0, none⟩ = some (.int .i64 r) := (Grown.cell g3 (by first | (simp; omega) | simp | omega)).trans (by simp [go_sem, *])
          have q3_7 : w3.cell? ⟨w2.heap.size, 1, none⟩ = some (.int .i64 (u - r)) := (Grown.cell g3 (by first | (simp; omega) | simp | omega)).trans (by simp [go_sem, *])
          have q3_8 : w3.cell? ⟨w2.heap.size, 2, none⟩ = some (.int .i64 (v - r)) := (Grown.cell g3 (by first | (simp; omega) | simp | omega)).trans (by simp [go_sem, *])
          have q3_9 : w3.cell? ⟨w2.heap.size, 3, none⟩ = some (.int .i64 d) := (Grown.cell g3 (by first | (simp; omega) | simp | omega)).trans (by simp [go_sem, *])
          have G3 : Grown w w3 := Grown.trans (by first | (go_grown; done) | exact Grown.drewN (by go_grown) _) g3
          have z3_w0 : w.heap.size < w3.heap.size := by omega
          have z3_w1 : w.heap.size + 1 < w3.heap.size := by omega
          have z3_w20 : w2.heap.size < w3.heap.size := by omega
          clear g3 q2_0 q2_1 q2_2 q2_3 q2_4 q2_5
          go_wp2_with fail
          refine (T1.out _).mono ?_
          rintro e w4 ⟨rfl, g4⟩
          have z4 := (laid g4).2.2
          try simp at z4
          have q4_0 : w4.cell? ⟨w.heap.size, 0, none⟩ = some (.int .i64 a) := (Grown.cell g4 (by first | (simp; omega) | simp | omega)).trans (by simp [go_sem, *])
          have q4_1 : w4.cell? ⟨w.heap.size, 1, none⟩ = some (.int .i64 l) := (Grown.cell g4 (by first | (simp; omega) | simp | omega)).trans (by simp [go_sem, *])
          have q4_2 : w4.cell? ⟨w.heap.size, 2, none⟩ = some (.int .i64 h) := (Grown.cell g4 (by first | (simp; omega) | simp | omega)).trans (by simp [go_sem, *])
          have q4_3 : w4.cell? ⟨w.heap.size, 3, none⟩ = some (.int .i64 d) := (Grown.cell g4 (by first | (simp; omega) | simp | omega)).trans (by simp [go_sem, *])
          have q4_4 : w4.cell? ⟨w.heap.size + 1, 0, none⟩ = some (.int .i64 x) := (Grown.cell g4 (by first | (simp; omega) | simp | omega)).trans (by simp [go_sem, *])
          have q4_5 : w4.cell? ⟨w.heap.size + 1, 1, none⟩ = some (.int .i64 y) := (Grown.cell g4 (by first | (simp; omega) | simp | omega)).trans (by simp [go_sem, *])
          have q4_6 : w4.cell? ⟨w2.heap.size, 0, none⟩ = some (.int .i64 r) := (Grown.cell g4 (by first | (simp; omega) | simp | omega)).trans (by simp [go_sem, *])
          have q4_7 : w4.cell? ⟨w2.heap.size, 1, none⟩ = some (.int .i64 (u - r)) := (Grown.cell g4 (by first | (simp; omega) | simp | omega)).trans (by simp [go_sem, *])
          have q4_8 : w4.cell? ⟨w2.heap.size, 2, none⟩ = some (.int .i64 (v - r)) := (Grown.cell g4 (by first | (simp; omega) | simp | omega)).trans (by simp [go_sem, *])
          have q4_9 : w4.cell? ⟨w2.heap.size, 3, none⟩ = some (.int .i64 d) := (Grown.cell g4 (by first | (simp; omega) | simp | omega)).trans (by simp [go_sem, *])
          have G4 : Grown w w4 := Grown.trans (by first | (go_grown; done) | exact Grown.drewN (by go_grown) _) g4
          have z4_w0 : w.heap.size < w4.heap.size := by omega
          have z4_w1 : w.heap.size + 1 < w4.heap.size := by omega
          have z4_w20 : w2.heap.size < w4.heap.size := by omega
          clear g4 q3_0 q3_1 q3_2 q3_3 q3_4 q3_5 q3_6 q3_7 q3_8 q3_9
          go_wp2_with fail
          refine (ME.out _).mono ?_
          rintro e w5 ⟨rfl, g5⟩
          have z5 := (laid g5).2.2
          try simp at z5
          have q5_0 : w5.cell? ⟨w.heap.size, 0, none⟩ = some (.int .i64 a) := (Grown.cell g5 (by first | (simp; omega) | simp | omega)).trans (by simp [go_sem, *])
          have q5_1 : w5.cell? ⟨w.heap.size, 1, none⟩ = some (.int .i64 l) := (Grown.cell g5 (by first | (simp; omega) | simp | omega)).trans (by simp [go_sem, *])
          have q5_2 : w5.cell? ⟨w.heap.size, 2, none⟩ = some (.int .i64 h) := (Grown.cell g5 (by first | (simp; omega) | simp | omega)).trans (by simp [go_sem, *])
          have q5_3 : w5.cell? ⟨w.heap.size, 3, none⟩ = some (.int .i64 d) := (Grown.cell g5 (by first | (simp; omega) | simp | omega)).trans (by simp [go_sem, *])
          have q5_4 : w5.cell? ⟨w.heap.size + 1, 0, none⟩ = some (.int .i64 x) := (Grown.cell g5 (by first | (simp; omega) | simp | omega)).trans (by simp [go_sem, *])
          have q5_5 : w5.cell? ⟨w.heap.size + 1, 1, none⟩ = some (.int .i64 y) := (Grown.cell g5 (by first | (simp; omega) | simp | omega)).trans (by simp [go_sem, *])
          have q5_6 : w5.cell? ⟨w2.heap.size, 0, none⟩ = some (.int .i64 r) := (Grown.cell g5 (by first | (simp; omega) | simp | omega)).trans (by simp [go_sem, *])
          have q5_7 : w5.cell? ⟨w2.heap.size, 1, none⟩ = some (.int .i64 (u - r)) := (Grown.cell g5 (by first | (simp; omega) | simp | omega)).trans (by simp [go_sem, *])
          have q5_8 : w5.cell? ⟨w2.heap.size, 2, none⟩ = some (.int .i64 (v - r)) := (Grown.cell g5 (by first | (simp; omega) | simp | omega)).trans (by simp [go_sem, *])
          have q5_9 : w5.cell? ⟨w2.heap.size, 3, none⟩ = some (.int .i64 d) := (Grown.cell g5 (by first | (simp; omega) | simp | omega)).trans (by simp [go_sem, *])
          have q5_10 : w5.cell? ⟨w4.heap.size, 0, none⟩ = some (.int .i64 p) := (Grown.cell g5 (by first | (simp; omega) | simp | omega)).trans (by simp [go_sem, *])
          have q5_11 : w5.cell? ⟨w4.heap.size, 1, none⟩ = some (.int .i64 q) := (Grown.cell g5 (by first | (simp; omega) | simp | omega)).trans (by simp [go_sem, *])
          have G5 : Grown w w5 := Grown.trans (by first | (go_grown; done) | exact Grown.drewN (by go_grown) _) g5
          have z5_w0 : w.heap.size < w5.heap.size := by omega
          have z5_w1 : w.heap.size + 1 < w5.heap.size := by omega
          have z5_w20 : w2.heap.size < w5.heap.size := by omega
          have z5_w40 : w4.heap.size < w5.heap.size := by omega
          clear g5 q4_0 q4_1 q4_2 q4_3 q4_4 q4_5 q4_6 q4_7 q4_8 q4_9
          go_wp2_with fail
          refine (T2.out _).mono ?_
          rintro e w6 ⟨rfl, g6⟩
          have z6 := (laid g6).2.2
          try simp at z6
          have q6_0 : w6.cell? ⟨w.heap.size, 0, none⟩ = some (.int .i64 a) := (Grown.cell g6 (by first | (simp; omega) | simp | omega)).trans (by simp [go_sem, *])
          have q6_1 : w6.cell? ⟨w.heap.size, 1, none⟩ = some (.int .i64 l) := (Grown.cell g6 (by first | (simp; omega) | simp | omega)).trans (by simp [go_sem, *])
          have q6_2 : w6.cell? ⟨w.heap.size, 2, none⟩ = some (.int .i64 h) := (Grown.cell g6 (by first | (simp; omega) | simp | omega)).trans (by simp [go_sem, *])
          have q6_3 : w6.cell? ⟨w.heap.size, 3, none⟩ = some (.int .i64 d) := (Grown.cell g6 (by first | (simp; omega) | simp | omega)).trans (by simp [go_sem, *])
          have q6_4 : w6.cell? ⟨w.heap.size + 1, 0, none⟩ = some (.int .i64 x) := (Grown.cell g6 (by first | (simp; omega) | simp | omega)).trans (by simp [go_sem, *])
          have q6_5 : w6.cell? ⟨w.heap.size + 1, 1, none⟩ = some (.int .i64 y) := (Grown.cell g6 (by first | (simp; omega) | simp | omega)).trans (by simp [go_sem, *])
          have q6_6 : w6.cell? ⟨w2.heap.size, 0, none⟩ = some (.int .i64 r) := (Grown.cell g6 (by first | (simp; omega) | simp | omega)).trans (by simp [go_sem, *])
          have q6_7 : w6.cell? ⟨w2.heap.size, 1, none⟩ = some (.int .i64 (u - r)) := (Grown.cell g6 (by first | (simp; omega) | simp | omega)).trans (by simp [go_sem, *])
          have q6_8 : w6.cell? ⟨w2.heap.size, 2, none⟩ = some (.int .i64 (v - r)) := (Grown.cell g6 (by first | (simp; omega) | simp | omega)).trans (by simp [go_sem, *])
          have q6_9 : w6.cell? ⟨w2.heap.size, 3, none⟩ = some (.int .i64 d) := (Grown.cell g6 (by first | (simp; omega) | simp | omega)).trans (by simp [go_sem, *])
          have q6_10 : w6.cell? ⟨w5.heap.size, 0, none⟩ = some (.int .i64 u) := (Grown.cell g6 (by first | (simp; omega) | simp | omega)).trans (by simp [go_sem, *])
          have q6_11 : w6.cell? ⟨w5.heap.size, 1, none⟩ = some (.int .i64 v) := (Grown.cell g6 (by first | (simp; omega) | simp | omega)).trans (by simp [go_sem, *])
          have G6 : Grown w w6 := Grown.trans (by first | (go_grown; done) | exact Grown.drewN (by go_grown) _) g6
          have z6_w0 : w.heap.size < w6.heap.size := by omega
          have z6_w1 : w.heap.size + 1 < w6.heap.size := by omega
          have z6_w20 : w2.heap.size < w6.heap.size := by omega
          have z6_w40 : w4.heap.size < w6.heap.size := by omega
          have z6_w50 : w5.heap.size < w6.heap.size := by omega
          clear g6 q5_0 q5_1 q5_2 q5_3 q5_4 q5_5 q5_6 q5_7 q5_8 q5_9 q5_10 q5_11
          go_wp2_with fail
          refine (V2.out _).mono ?_
          rintro e w7 ⟨rfl, g7⟩
          have z7 := (laid g7).2.2
          try simp at z7
          have q7_0 : w7.cell? ⟨w.heap.size, 0, none⟩ = some (.int .i64 a) := (Grown.cell g7 (by first | (simp; omega) | simp | omega)).trans (by simp [go_sem, *])
          have q7_1 : w7.cell? ⟨w.heap.size, 1, none⟩ = some (.int .i64 l) := (Grown.cell g7 (by first | (simp; omega) | simp | omega)).trans (by simp [go_sem, *])
          have q7_2 : w7.cell? ⟨w.heap.size, 2, none⟩ = some (.int .i64 h) := (Grown.cell g7 (by first | (simp; omega) | simp | omega)).trans (by simp [go_sem, *])
          have q7_3 : w7.cell? ⟨w.heap.size, 3, none⟩ = some (.int .i64 d) := (Grown.cell g7 (by first | (simp; omega) | simp | omega)).trans (by simp [go_sem, *])
          have q7_4 : w7.cell? ⟨w.heap.size + 1, 0, none⟩ = some (.int .i64 x) := (Grown.cell g7 (by first | (simp; omega) | simp | omega)).trans (by simp [go_sem, *])
          have q7_5 : w7.cell? ⟨w.heap.size + 1, 1, none⟩ = some (.int .i64 y) := (Grown.cell g7 (by first | (simp; omega) | simp | omega)).trans (by simp [go_sem, *])
          have q7_6 : w7.cell? ⟨w2.heap.size, 0, none⟩ = some (.int .i64 r) := (Grown.cell g7 (by first | (simp; omega) | simp | omega)).trans (by simp [go_sem, *])
          have q7_7 : w7.cell? ⟨w2.heap.size, 1, none⟩ = some (.int .i64 (u - r)) := (Grown.cell g7 (by first | (simp; omega) | simp | omega)).trans (by simp [go_sem, *])
          have q7_8 : w7.cell? ⟨w2.heap.size, 2, none⟩ = some (.int .i64 (v - r)) := (Grown.cell g7 (by first | (simp; omega) | simp | omega)).trans (by simp [go_sem, *])
          have q7_9 : w7.cell? ⟨w2.heap.size, 3, none⟩ = some (.int .i64 d) := (Grown.cell g7 (by first | (simp; omega) | simp | omega)).trans (by simp [go_sem, *])
          have q7_10 : w7.cell? ⟨w5.heap.size, 0, none⟩ = some (.int .i64 u) := (Grown.cell g7 (by first | (simp; omega) | simp | omega)).trans (by simp [go_sem, *])
          have q7_11 : w7.cell? ⟨w5.heap.size, 1, none⟩ = some (.int .i64 v) := (Grown.cell g7 (by first | (simp; omega) | simp | omega)).trans (by simp [go_sem, *])
          have q7_12 : w7.cell? ⟨w6.heap.size, 0, none⟩ = some (.int .i64 u) := (Grown.cell g7 (by first | (simp; omega) | simp | omega)).trans (by simp [go_sem, *])
          have q7_13 : w7.cell? ⟨w6.heap.size, 1, none⟩ = some (.int .i64 v) := (Grown.cell g7 (by first | (simp; omega) | simp | omega)).trans (by simp [go_sem, *])
          have G7 : Grown w w7 := Grown.trans (by first | (go_grown; done) | exact Grown.drewN (by go_grown) _) g7
          have z7_w0 : w.heap.size < w7.heap.size := by omega
          have z7_w1 : w.heap.size + 1 < w7.heap.size := by omega
          have z7_w20 : w2.heap.size < w7.heap.size := by omega
          have z7_w40 : w4.heap.size < w7.heap.size := by omega
          have z7_w50 : w5.heap.size < w7.heap.size := by omega
          have z7_w60 : w6.heap.size < w7.heap.size := by omega
          clear g7 q6_0 q6_1 q6_2 q6_3 q6_4 q6_5 q6_6 q6_7 q6_8 q6_9 q6_10 q6_11
          go_wp2_with fail
          refine (T3.out _).mono ?_
          rintro e w8 ⟨rfl, g8⟩
          have z8 := (laid g8).2.2
          try simp at z8
          have q8_0 : w8.cell? ⟨w.heap.size, 0, none⟩ = some (.int .i64 a) := (Grown.cell g8 (by first | (simp; omega) | simp | omega)).trans (by simp [go_sem, *])
          have q8_1 : w8.cell? ⟨w.heap.size, 1, none⟩ = some (.int .i64 l) := (Grown.cell g8 (by first | (simp; omega) | simp | omega)).trans (by simp [go_sem, *])
          have q8_2 : w8.cell? ⟨w.heap.size, 2, none⟩ = some (.int .i64 h) := (Grown.cell g8 (by first | (simp; omega) | simp | omega)).trans (by simp [go_sem, *])
          have q8_3 : w8.cell? ⟨w.heap.size, 3, none⟩ = some (.int .i64 d) := (Grown.cell g8 (by first | (simp; omega) | simp | omega)).trans (by simp [go_sem, *])
          have q8_4 : w8.cell? ⟨w2.heap.size, 0, none⟩ = some (.int .i64 r) := (Grown.cell g8 (by first | (simp; omega) | simp | omega)).trans (by simp [go_sem, *])
          have q8_5 : w8.cell? ⟨w2.heap.size, 1, none⟩ = some (.int .i64 (u - r)) := (Grown.cell g8 (by first | (simp; omega) | simp | omega)).trans (by simp [go_sem, *])
          have q8_6 : w8.cell? ⟨w2.heap.size, 2, none⟩ = some (.int .i64 (v - r)) := (Grown.cell g8 (by first | (simp; omega) | simp | omega)).trans (by simp [go_sem, *])
          have q8_7 : w8.cell? ⟨w2.heap.size, 3, none⟩ = some (.int .i64 d) := (Grown.cell g8 (by first | (simp; omega) | simp | omega)).trans (by simp [go_sem, *])
          have q8_8 : w8.cell? ⟨w5.heap.size, 0, none⟩ = some (.int .i64 u) := (Grown.cell g8 (by first | (simp; omega) | simp | omega)).trans (by simp [go_sem, *])
          have q8_9 : w8.cell? ⟨w5.heap.size, 1, none⟩ = some (.int .i64 v) := (Grown.cell g8 (by first | (simp; omega) | simp | omega)).trans (by simp [go_sem, *])
          have G8 : Grown w w8 := Grown.trans (by first | (go_grown; done) | exact Grown.drewN (by go_grown) _) g8
          have z8_w0 : w.heap.size < w8.heap.size := by omega
          have z8_w1 : w.heap.size + 1 < w8.heap.size := by omega
          have z8_w20 : w2.heap.size < w8.heap.size := by omega
          have z8_w40 : w4.heap.size < w8.heap.size := by omega
          have z8_w50 : w5.heap.size < w8.heap.size := by omega
          have z8_w60 : w6.heap.size < w8.heap.size := by omega
          clear g8 q7_0 q7_1 q7_2 q7_3 q7_4 q7_5 q7_6 q7_7 q7_8 q7_9 q7_10 q7_11 q7_12 q7_13
          go_wp2_with fail
          go_quiet (fail)
          go_wp2_with fail
          have q9_0 : ((w8.alloc (.cells #[.int .i64 p2, .int .i64 q2] 23)).drewN nq).cell? ⟨w.heap.size, 3, none⟩ = some (.int .i64 d) := by simp [go_sem, *]
          have q9_1 : ((w8.alloc (.cells #[.int .i64 p2, .int .i64 q2] 23)).drewN nq).cell? ⟨w8.heap.size, 0, none⟩ = some (.int .i64 p2) := by simp [go_sem, *]
          have q9_2 : ((w8.alloc (.cells #[.int .i64 p2, .int .i64 q2] 23)).drewN nq).cell? ⟨w8.heap.size, 1, none⟩ = some (.int .i64 q2) := by simp [go_sem, *]
          have G9 : Grown w ((w8.alloc (.cells #[.int .i64 p2, .int .i64 q2] 23)).drewN nq) := by first | (go_grown; done) | exact Grown.drewN (by go_grown) _
          have z9_w0 : w.heap.size < ((w8.alloc (.cells #[.int .i64 p2, .int .i64 q2] 23)).drewN nq).heap.size := by first | (simp; omega) | simp | omega
          have z9_w1 : w.heap.size + 1 < ((w8.alloc (.cells #[.int .i64 p2, .int .i64 q2] 23)).drewN nq).heap.size := by first | (simp; omega) | simp | omega
          have z9_w20 : w2.heap.size < ((w8.alloc (.cells #[.int .i64 p2, .int .i64 q2] 23)).drewN nq).heap.size := by first | (simp; omega) | simp | omega
          have z9_w40 : w4.heap.size < ((w8.alloc (.cells #[.int .i64 p2, .int .i64 q2] 23)).drewN nq).heap.size := by first | (simp; omega) | simp | omega
          have z9_w50 : w5.heap.size < ((w8.alloc (.cells #[.int .i64 p2, .int .i64 q2] 23)).drewN nq).heap.size := by first | (simp; omega) | simp | omega
          have z9_w60 : w6.heap.size < ((w8.alloc (.cells #[.int .i64 p2, .int .i64 q2] 23)).drewN nq).heap.size := by first | (simp; omega) | simp | omega
          have z9_w80 : w8.heap.size < ((w8.alloc (.cells #[.int .i64 p2, .int .i64 q2] 23)).drewN nq).heap.size := by first | (simp; omega) | simp | omega
          clear q8_0 q8_1 q8_2 q8_3 q8_4 q8_5 q8_6 q8_7 q8_8 q8_9
          generalize (w8.alloc (.cells #[.int .i64 p2, .int .i64 q2] 23)).drewN nq = w9 at *
          go_region_held3 (fun W => W.cell? ⟨w.heap.size, 3, none⟩ = some (.int .i64 d) ∧ W.cell? ⟨w8.heap.size, 0, none⟩ = some (.int .i64 p2) ∧ W.cell? ⟨w8.heap.size, 1, none⟩ = some (.int .i64 q2)) (simp [go_sem, *])
            (first | (go_at_call 20; refine (FC.out _).mono ?_; rintro e w' ⟨rfl, rfl⟩) | (go_at_call 21; refine (refIn_any _ _ _ _).mono ?_; rintro e w10 ⟨rfl, g10⟩; rw [IC.out]; obtain ⟨c10, f10, z10⟩ := laid g10; (try simp at z10); (try simp only [World.size_drew, World.cell?_drew] at c10); have G10 : Grown w w10 := Grown.trans (by go_grown) g10; clear g10; have z10_0 : w.heap.size < w10.heap.size := (by omega); have z10_1 : w8.heap.size < w10.heap.size := (by omega)))
          go_wp2_with fail
          go_ret
          exact ⟨by first | rfl | (simp; omega), by go_grown⟩
        · skip
          have S1 := Lib.hid (set_ok a l h d r x y · hc hr hv ho hof)
          have RV := Lib.hid (R.valid_yes a l h d · hc)
          have T1 := Lib.hid (true_ok a l h d r · hc hr)
          have ME : Hid (∀ W : World, Calls Try.prog 22 #[.agg #[.int .i64 (tl a l d r), .int .i64 (th a h d r)], .agg #[.int .i64 x, .int .i64 y]] W fun e w' => e = .returned (.tuple #[.agg #[.int .i64 (ml a l d r x), .int .i64 (mh a h d r y)], .bool true, .int .i64 0]) ∧ Grown W w') := Lib.hid (fun W => spMeet_ok (tl a l d r) (th a h d r) x y W ⟨t_vd hc hr, hv⟩ ho)
          have hc2 : Cv r (ml a l d r x - r) (mh a h d r y - r) d := ⟨hr, hof, hc.2.2⟩
          have T2 := Lib.hid (true_ok r (ml a l d r x - r) (mh a h d r y - r) d r · hc2 hr)
          have E1 : tl r (ml a l d r x - r) d r = ml a l d r x := by unfold tl; rw [wg_self]; omega
          have E2 : th r (mh a h d r y - r) d r = mh a h d r y := by unfold th; rw [wg_self]; omega
          rw [E1, E2] at T2
          clear E1 E2
          have V2 := Lib.hid (valid_yes r (ml a l d r x - r) (mh a h d r y - r) d · hc2)
          have bd := t_bd hc hr
          have u0 : -2000000 ≤ ml a l d r x := by unfold ml; rw [mx_max]; omega
          have v0 : mh a h d r y ≤ 1002000000 := by unfold mh; rw [mn_min]; omega
          have T3 := Lib.hid (true_bad r (ml a l d r x - r) (mh a h d r y - r) d t · (fun m => ht m.2))
          generalize ml a l d r x = u at *
          generalize mh a h d r y = v at *
          have hr' : Rd r := hr
          obtain ⟨r0, r1⟩ := hr'
          clear hc hr hv hof hc2 bd ht hb hn
          generalize tl a l d r = p at *
          generalize th a h d r = q at *
          go_enter Try.func6, Try.ntmps6
          go_wp2_with fail
          refine (head_true _).mono ?_
          rintro e w1 ⟨rfl, g1⟩
          have z1 := (laid g1).2.2
          try simp at z1
          have q1_0 : w1.cell? ⟨w.heap.size, 0, none⟩ = some (.int .i64 a) := (Grown.cell g1 (by first | (simp; omega) | simp | omega)).trans (by simp [go_sem, *])
          have q1_1 : w1.cell? ⟨w.heap.size, 1, none⟩ = some (.int .i64 l) := (Grown.cell g1 (by first | (simp; omega) | simp | omega)).trans (by simp [go_sem, *])
          have q1_2 : w1.cell? ⟨w.heap.size, 2, none⟩ = some (.int .i64 h) := (Grown.cell g1 (by first | (simp; omega) | simp | omega)).trans (by simp [go_sem, *])
          have q1_3 : w1.cell? ⟨w.heap.size, 3, none⟩ = some (.int .i64 d) := (Grown.cell g1 (by first | (simp; omega) | simp | omega)).trans (by simp [go_sem, *])
          have q1_4 : w1.cell? ⟨w.heap.size + 1, 0, none⟩ = some (.int .i64 x) := (Grown.cell g1 (by first | (simp; omega) | simp | omega)).trans (by simp [go_sem, *])
          have q1_5 : w1.cell? ⟨w.heap.size + 1, 1, none⟩ = some (.int .i64 y) := (Grown.cell g1 (by first | (simp; omega) | simp | omega)).trans (by simp [go_sem, *])
          have G1 : Grown w w1 := Grown.trans (by first | (go_grown; done) | exact Grown.drewN (by go_grown) _) g1
          have z1_w0 : w.heap.size < w1.heap.size := by omega
          have z1_w1 : w.heap.size + 1 < w1.heap.size := by omega
          clear g1
          go_wp2_with fail
          refine (S1.out _).mono ?_
          rintro e w2 ⟨rfl, g2⟩
          have z2 := (laid g2).2.2
          try simp at z2
          have q2_0 : w2.cell? ⟨w.heap.size, 0, none⟩ = some (.int .i64 a) := (Grown.cell g2 (by first | (simp; omega) | simp | omega)).trans (by simp [go_sem, *])
          have q2_1 : w2.cell? ⟨w.heap.size, 1, none⟩ = some (.int .i64 l) := (Grown.cell g2 (by first | (simp; omega) | simp | omega)).trans (by simp [go_sem, *])
          have q2_2 : w2.cell? ⟨w.heap.size, 2, none⟩ = some (.int .i64 h) := (Grown.cell g2 (by first | (simp; omega) | simp | omega)).trans (by simp [go_sem, *])
          have q2_3 : w2.cell? ⟨w.heap.size, 3, none⟩ = some (.int .i64 d) := (Grown.cell g2 (by first | (simp; omega) | simp | omega)).trans (by simp [go_sem, *])
          have q2_4 : w2.cell? ⟨w.heap.size + 1, 0, none⟩ = some (.int .i64 x) := (Grown.cell g2 (by first | (simp; omega) | simp | omega)).trans (by simp [go_sem, *])
          have q2_5 : w2.cell? ⟨w.heap.size + 1, 1, none⟩ = some (.int .i64 y) := (Grown.cell g2 (by first | (simp; omega) | simp | omega)).trans (by simp [go_sem, *])
          have G2 : Grown w w2 := Grown.trans (by first | (go_grown; done) | exact Grown.drewN (by go_grown) _) g2
          have z2_w0 : w.heap.size < w2.heap.size := by omega
          have z2_w1 : w.heap.size + 1 < w2.heap.size := by omega
          clear g2 q1_0 q1_1 q1_2 q1_3 q1_4 q1_5
          go_wp2_with fail
          refine (RV.out _).mono ?_
          rintro e w3 ⟨rfl, g3⟩
          have z3 := (laid g3).2.2
          try simp at z3
          have q3_0 : w3.cell? ⟨w.heap.size, 0, none⟩ = some (.int .i64 a) := (Grown.cell g3 (by first | (simp; omega) | simp | omega)).trans (by simp [go_sem, *])
          have q3_1 : w3.cell? ⟨w.heap.size, 1, none⟩ = some (.int .i64 l) := (Grown.cell g3 (by first | (simp; omega) | simp | omega)).trans (by simp [go_sem, *])
          have q3_2 : w3.cell? ⟨w.heap.size, 2, none⟩ = some (.int .i64 h) := (Grown.cell g3 (by first | (simp; omega) | simp | omega)).trans (by simp [go_sem, *])
          have q3_3 : w3.cell? ⟨w.heap.size, 3, none⟩ = some (.int .i64 d) := (Grown.cell g3 (by first | (simp; omega) | simp | omega)).trans (by simp [go_sem, *])
          have q3_4 : w3.cell? ⟨w.heap.size + 1, 0, none⟩ = some (.int .i64 x) := (Grown.cell g3 (by first | (simp; omega) | simp | omega)).trans (by simp [go_sem, *])
          have q3_5 : w3.cell? ⟨w.heap.size + 1, 1, none⟩ = some (.int .i64 y) := (Grown.cell g3 (by first | (simp; omega) | simp | omega)).trans (by simp [go_sem, *])
          have q3_6 : w3.cell? ⟨w2.heap.size, 0, none⟩ = some (.int .i64 r) := (Grown.cell g3 (by first | (simp; omega) | simp | omega)).trans (by simp [go_sem, *])
          have q3_7 : w3.cell? ⟨w2.heap.size, 1, none⟩ = some (.int .i64 (u - r)) := (Grown.cell g3 (by first | (simp; omega) | simp | omega)).trans (by simp [go_sem, *])
          have q3_8 : w3.cell? ⟨w2.heap.size, 2, none⟩ = some (.int .i64 (v - r)) := (Grown.cell g3 (by first | (simp; omega) | simp | omega)).trans (by simp [go_sem, *])
          have q3_9 : w3.cell? ⟨w2.heap.size, 3, none⟩ = some (.int .i64 d) := (Grown.cell g3 (by first | (simp; omega) | simp | omega)).trans (by simp [go_sem, *])
          have G3 : Grown w w3 := Grown.trans (by first | (go_grown; done) | exact Grown.drewN (by go_grown) _) g3
          have z3_w0 : w.heap.size < w3.heap.size := by omega
          have z3_w1 : w.heap.size + 1 < w3.heap.size := by omega
          have z3_w20 : w2.heap.size < w3.heap.size := by omega
          clear g3 q2_0 q2_1 q2_2 q2_3 q2_4 q2_5
          go_wp2_with fail
          refine (T1.out _).mono ?_
          rintro e w4 ⟨rfl, g4⟩
          have z4 := (laid g4).2.2
          try simp at z4
          have q4_0 : w4.cell? ⟨w.heap.size, 0, none⟩ = some (.int .i64 a) := (Grown.cell g4 (by first | (simp; omega) | simp | omega)).trans (by simp [go_sem, *])
          have q4_1 : w4.cell? ⟨w.heap.size, 1, none⟩ = some (.int .i64 l) := (Grown.cell g4 (by first | (simp; omega) | simp | omega)).trans (by simp [go_sem, *])
          have q4_2 : w4.cell? ⟨w.heap.size, 2, none⟩ = some (.int .i64 h) := (Grown.cell g4 (by first | (simp; omega) | simp | omega)).trans (by simp [go_sem, *])
          have q4_3 : w4.cell? ⟨w.heap.size, 3, none⟩ = some (.int .i64 d) := (Grown.cell g4 (by first | (simp; omega) | simp | omega)).trans (by simp [go_sem, *])
          have q4_4 : w4.cell? ⟨w.heap.size + 1, 0, none⟩ = some (.int .i64 x) := (Grown.cell g4 (by first | (simp; omega) | simp | omega)).trans (by simp [go_sem, *])
          have q4_5 : w4.cell? ⟨w.heap.size + 1, 1, none⟩ = some (.int .i64 y) := (Grown.cell g4 (by first | (simp; omega) | simp | omega)).trans (by simp [go_sem, *])
          have q4_6 : w4.cell? ⟨w2.heap.size, 0, none⟩ = some (.int .i64 r) := (Grown.cell g4 (by first | (simp; omega) | simp | omega)).trans (by simp [go_sem, *])
          have q4_7 : w4.cell? ⟨w2.heap.size, 1, none⟩ = some (.int .i64 (u - r)) := (Grown.cell g4 (by first | (simp; omega) | simp | omega)).trans (by simp [go_sem, *])
          have q4_8 : w4.cell? ⟨w2.heap.size, 2, none⟩ = some (.int .i64 (v - r)) := (Grown.cell g4 (by first | (simp; omega) | simp | omega)).trans (by simp [go_sem, *])
          have q4_9 : w4.cell? ⟨w2.heap.size, 3, none⟩ = some (.int .i64 d) := (Grown.cell g4 (by first | (simp; omega) | simp | omega)).trans (by simp [go_sem, *])
          have G4 : Grown w w4 := Grown.trans (by first | (go_grown; done) | exact Grown.drewN (by go_grown) _) g4
          have z4_w0 : w.heap.size < w4.heap.size := by omega
          have z4_w1 : w.heap.size + 1 < w4.heap.size := by omega
          have z4_w20 : w2.heap.size < w4.heap.size := by omega
          clear g4 q3_0 q3_1 q3_2 q3_3 q3_4 q3_5 q3_6 q3_7 q3_8 q3_9
          go_wp2_with fail
          refine (ME.out _).mono ?_
          rintro e w5 ⟨rfl, g5⟩
          have z5 := (laid g5).2.2
          try simp at z5
          have q5_0 : w5.cell? ⟨w.heap.size, 0, none⟩ = some (.int .i64 a) := (Grown.cell g5 (by first | (simp; omega) | simp | omega)).trans (by simp [go_sem, *])
          have q5_1 : w5.cell? ⟨w.heap.size, 1, none⟩ = some (.int .i64 l) := (Grown.cell g5 (by first | (simp; omega) | simp | omega)).trans (by simp [go_sem, *])
          have q5_2 : w5.cell? ⟨w.heap.size, 2, none⟩ = some (.int .i64 h) := (Grown.cell g5 (by first | (simp; omega) | simp | omega)).trans (by simp [go_sem, *])
          have q5_3 : w5.cell? ⟨w.heap.size, 3, none⟩ = some (.int .i64 d) := (Grown.cell g5 (by first | (simp; omega) | simp | omega)).trans (by simp [go_sem, *])
          have q5_4 : w5.cell? ⟨w.heap.size + 1, 0, none⟩ = some (.int .i64 x) := (Grown.cell g5 (by first | (simp; omega) | simp | omega)).trans (by simp [go_sem, *])
          have q5_5 : w5.cell? ⟨w.heap.size + 1, 1, none⟩ = some (.int .i64 y) := (Grown.cell g5 (by first | (simp; omega) | simp | omega)).trans (by simp [go_sem, *])
          have q5_6 : w5.cell? ⟨w2.heap.size, 0, none⟩ = some (.int .i64 r) := (Grown.cell g5 (by first | (simp; omega) | simp | omega)).trans (by simp [go_sem, *])
          have q5_7 : w5.cell? ⟨w2.heap.size, 1, none⟩ = some (.int .i64 (u - r)) := (Grown.cell g5 (by first | (simp; omega) | simp | omega)).trans (by simp [go_sem, *])
          have q5_8 : w5.cell? ⟨w2.heap.size, 2, none⟩ = some (.int .i64 (v - r)) := (Grown.cell g5 (by first | (simp; omega) | simp | omega)).trans (by simp [go_sem, *])
          have q5_9 : w5.cell? ⟨w2.heap.size, 3, none⟩ = some (.int .i64 d) := (Grown.cell g5 (by first | (simp; omega) | simp | omega)).trans (by simp [go_sem, *])
          have q5_10 : w5.cell? ⟨w4.heap.size, 0, none⟩ = some (.int .i64 p) := (Grown.cell g5 (by first | (simp; omega) | simp | omega)).trans (by simp [go_sem, *])
          have q5_11 : w5.cell? ⟨w4.heap.size, 1, none⟩ = some (.int .i64 q) := (Grown.cell g5 (by first | (simp; omega) | simp | omega)).trans (by simp [go_sem, *])
          have G5 : Grown w w5 := Grown.trans (by first | (go_grown; done) | exact Grown.drewN (by go_grown) _) g5
          have z5_w0 : w.heap.size < w5.heap.size := by omega
          have z5_w1 : w.heap.size + 1 < w5.heap.size := by omega
          have z5_w20 : w2.heap.size < w5.heap.size := by omega
          have z5_w40 : w4.heap.size < w5.heap.size := by omega
          clear g5 q4_0 q4_1 q4_2 q4_3 q4_4 q4_5 q4_6 q4_7 q4_8 q4_9
          go_wp2_with fail
          refine (T2.out _).mono ?_
          rintro e w6 ⟨rfl, g6⟩
          have z6 := (laid g6).2.2
          try simp at z6
          have q6_0 : w6.cell? ⟨w.heap.size, 0, none⟩ = some (.int .i64 a) := (Grown.cell g6 (by first | (simp; omega) | simp | omega)).trans (by simp [go_sem, *])
          have q6_1 : w6.cell? ⟨w.heap.size, 1, none⟩ = some (.int .i64 l) := (Grown.cell g6 (by first | (simp; omega) | simp | omega)).trans (by simp [go_sem, *])
          have q6_2 : w6.cell? ⟨w.heap.size, 2, none⟩ = some (.int .i64 h) := (Grown.cell g6 (by first | (simp; omega) | simp | omega)).trans (by simp [go_sem, *])
          have q6_3 : w6.cell? ⟨w.heap.size, 3, none⟩ = some (.int .i64 d) := (Grown.cell g6 (by first | (simp; omega) | simp | omega)).trans (by simp [go_sem, *])
          have q6_4 : w6.cell? ⟨w.heap.size + 1, 0, none⟩ = some (.int .i64 x) := (Grown.cell g6 (by first | (simp; omega) | simp | omega)).trans (by simp [go_sem, *])
          have q6_5 : w6.cell? ⟨w.heap.size + 1, 1, none⟩ = some (.int .i64 y) := (Grown.cell g6 (by first | (simp; omega) | simp | omega)).trans (by simp [go_sem, *])
          have q6_6 : w6.cell? ⟨w2.heap.size, 0, none⟩ = some (.int .i64 r) := (Grown.cell g6 (by first | (simp; omega) | simp | omega)).trans (by simp [go_sem, *])
          have q6_7 : w6.cell? ⟨w2.heap.size, 1, none⟩ = some (.int .i64 (u - r)) := (Grown.cell g6 (by first | (simp; omega) | simp | omega)).trans (by simp [go_sem, *])
          have q6_8 : w6.cell? ⟨w2.heap.size, 2, none⟩ = some (.int .i64 (v - r)) := (Grown.cell g6 (by first | (simp; omega) | simp | omega)).trans (by simp [go_sem, *])
          have q6_9 : w6.cell? ⟨w2.heap.size, 3, none⟩ = some (.int .i64 d) := (Grown.cell g6 (by first | (simp; omega) | simp | omega)).trans (by simp [go_sem, *])
          have q6_10 : w6.cell? ⟨w5.heap.size, 0, none⟩ = some (.int .i64 u) := (Grown.cell g6 (by first | (simp; omega) | simp | omega)).trans (by simp [go_sem, *])
          have q6_11 : w6.cell? ⟨w5.heap.size, 1, none⟩ = some (.int .i64 v) := (Grown.cell g6 (by first | (simp; omega) | simp | omega)).trans (by simp [go_sem, *])
          have G6 : Grown w w6 := Grown.trans (by first | (go_grown; done) | exact Grown.drewN (by go_grown) _) g6
          have z6_w0 : w.heap.size < w6.heap.size := by omega
          have z6_w1 : w.heap.size + 1 < w6.heap.size := by omega
          have z6_w20 : w2.heap.size < w6.heap.size := by omega
          have z6_w40 : w4.heap.size < w6.heap.size := by omega
          have z6_w50 : w5.heap.size < w6.heap.size := by omega
          clear g6 q5_0 q5_1 q5_2 q5_3 q5_4 q5_5 q5_6 q5_7 q5_8 q5_9 q5_10 q5_11
          go_wp2_with fail
          refine (V2.out _).mono ?_
          rintro e w7 ⟨rfl, g7⟩
          have z7 := (laid g7).2.2
          try simp at z7
          have q7_0 : w7.cell? ⟨w.heap.size, 0, none⟩ = some (.int .i64 a) := (Grown.cell g7 (by first | (simp; omega) | simp | omega)).trans (by simp [go_sem, *])
          have q7_1 : w7.cell? ⟨w.heap.size, 1, none⟩ = some (.int .i64 l) := (Grown.cell g7 (by first | (simp; omega) | simp | omega)).trans (by simp [go_sem, *])
          have q7_2 : w7.cell? ⟨w.heap.size, 2, none⟩ = some (.int .i64 h) := (Grown.cell g7 (by first | (simp; omega) | simp | omega)).trans (by simp [go_sem, *])
          have q7_3 : w7.cell? ⟨w.heap.size, 3, none⟩ = some (.int .i64 d) := (Grown.cell g7 (by first | (simp; omega) | simp | omega)).trans (by simp [go_sem, *])
          have q7_4 : w7.cell? ⟨w.heap.size + 1, 0, none⟩ = some (.int .i64 x) := (Grown.cell g7 (by first | (simp; omega) | simp | omega)).trans (by simp [go_sem, *])
          have q7_5 : w7.cell? ⟨w.heap.size + 1, 1, none⟩ = some (.int .i64 y) := (Grown.cell g7 (by first | (simp; omega) | simp | omega)).trans (by simp [go_sem, *])
          have q7_6 : w7.cell? ⟨w2.heap.size, 0, none⟩ = some (.int .i64 r) := (Grown.cell g7 (by first | (simp; omega) | simp | omega)).trans (by simp [go_sem, *])
          have q7_7 : w7.cell? ⟨w2.heap.size, 1, none⟩ = some (.int .i64 (u - r)) := (Grown.cell g7 (by first | (simp; omega) | simp | omega)).trans (by simp [go_sem, *])
          have q7_8 : w7.cell? ⟨w2.heap.size, 2, none⟩ = some (.int .i64 (v - r)) := (Grown.cell g7 (by first | (simp; omega) | simp | omega)).trans (by simp [go_sem, *])
          have q7_9 : w7.cell? ⟨w2.heap.size, 3, none⟩ = some (.int .i64 d) := (Grown.cell g7 (by first | (simp; omega) | simp | omega)).trans (by simp [go_sem, *])
          have q7_10 : w7.cell? ⟨w5.heap.size, 0, none⟩ = some (.int .i64 u) := (Grown.cell g7 (by first | (simp; omega) | simp | omega)).trans (by simp [go_sem, *])
          have q7_11 : w7.cell? ⟨w5.heap.size, 1, none⟩ = some (.int .i64 v) := (Grown.cell g7 (by first | (simp; omega) | simp | omega)).trans (by simp [go_sem, *])
          have q7_12 : w7.cell? ⟨w6.heap.size, 0, none⟩ = some (.int .i64 u) := (Grown.cell g7 (by first | (simp; omega) | simp | omega)).trans (by simp [go_sem, *])
          have q7_13 : w7.cell? ⟨w6.heap.size, 1, none⟩ = some (.int .i64 v) := (Grown.cell g7 (by first | (simp; omega) | simp | omega)).trans (by simp [go_sem, *])
          have G7 : Grown w w7 := Grown.trans (by first | (go_grown; done) | exact Grown.drewN (by go_grown) _) g7
          have z7_w0 : w.heap.size < w7.heap.size := by omega
          have z7_w1 : w.heap.size + 1 < w7.heap.size := by omega
          have z7_w20 : w2.heap.size < w7.heap.size := by omega
          have z7_w40 : w4.heap.size < w7.heap.size := by omega
          have z7_w50 : w5.heap.size < w7.heap.size := by omega
          have z7_w60 : w6.heap.size < w7.heap.size := by omega
          clear g7 q6_0 q6_1 q6_2 q6_3 q6_4 q6_5 q6_6 q6_7 q6_8 q6_9 q6_10 q6_11
          go_wp2_with fail
          refine (T3.out _).mono ?_
          rintro e w8 ⟨rfl, g8⟩
          have z8 := (laid g8).2.2
          try simp at z8
          have q8_0 : w8.cell? ⟨w.heap.size, 0, none⟩ = some (.int .i64 a) := (Grown.cell g8 (by first | (simp; omega) | simp | omega)).trans (by simp [go_sem, *])
          have q8_1 : w8.cell? ⟨w.heap.size, 1, none⟩ = some (.int .i64 l) := (Grown.cell g8 (by first | (simp; omega) | simp | omega)).trans (by simp [go_sem, *])
          have q8_2 : w8.cell? ⟨w.heap.size, 2, none⟩ = some (.int .i64 h) := (Grown.cell g8 (by first | (simp; omega) | simp | omega)).trans (by simp [go_sem, *])
          have q8_3 : w8.cell? ⟨w.heap.size, 3, none⟩ = some (.int .i64 d) := (Grown.cell g8 (by first | (simp; omega) | simp | omega)).trans (by simp [go_sem, *])
          have q8_4 : w8.cell? ⟨w2.heap.size, 0, none⟩ = some (.int .i64 r) := (Grown.cell g8 (by first | (simp; omega) | simp | omega)).trans (by simp [go_sem, *])
          have q8_5 : w8.cell? ⟨w2.heap.size, 1, none⟩ = some (.int .i64 (u - r)) := (Grown.cell g8 (by first | (simp; omega) | simp | omega)).trans (by simp [go_sem, *])
          have q8_6 : w8.cell? ⟨w2.heap.size, 2, none⟩ = some (.int .i64 (v - r)) := (Grown.cell g8 (by first | (simp; omega) | simp | omega)).trans (by simp [go_sem, *])
          have q8_7 : w8.cell? ⟨w2.heap.size, 3, none⟩ = some (.int .i64 d) := (Grown.cell g8 (by first | (simp; omega) | simp | omega)).trans (by simp [go_sem, *])
          have q8_8 : w8.cell? ⟨w5.heap.size, 0, none⟩ = some (.int .i64 u) := (Grown.cell g8 (by first | (simp; omega) | simp | omega)).trans (by simp [go_sem, *])
          have q8_9 : w8.cell? ⟨w5.heap.size, 1, none⟩ = some (.int .i64 v) := (Grown.cell g8 (by first | (simp; omega) | simp | omega)).trans (by simp [go_sem, *])
          have G8 : Grown w w8 := Grown.trans (by first | (go_grown; done) | exact Grown.drewN (by go_grown) _) g8
          have z8_w0 : w.heap.size < w8.heap.size := by omega
          have z8_w1 : w.heap.size + 1 < w8.heap.size := by omega
          have z8_w20 : w2.heap.size < w8.heap.size := by omega
          have z8_w40 : w4.heap.size < w8.heap.size := by omega
          have z8_w50 : w5.heap.size < w8.heap.size := by omega
          have z8_w60 : w6.heap.size < w8.heap.size := by omega
          clear g8 q7_0 q7_1 q7_2 q7_3 q7_4 q7_5 q7_6 q7_7 q7_8 q7_9 q7_10 q7_11 q7_12 q7_13
          go_wp2_with fail
          go_ret
          exact ⟨by first | rfl | (simp; omega), by go_grown⟩
      · skip
        have S1 := Lib.hid (set_range a l h d r x y · hc hr hv ho hof)
        clear hc hr hv ho hof hn hb
        go_enter Try.func6, Try.ntmps6
        go_wp2_with fail
        refine (head_true _).mono ?_
        rintro e w1 ⟨rfl, g1⟩
        have z1 := (laid g1).2.2
        try simp at z1
        have q1_0 : w1.cell? ⟨w.heap.size, 0, none⟩ = some (.int .i64 a) := (Grown.cell g1 (by first | (simp; omega) | simp | omega)).trans (by simp [go_sem, *])
        have q1_1 : w1.cell? ⟨w.heap.size, 1, none⟩ = some (.int .i64 l) := (Grown.cell g1 (by first | (simp; omega) | simp | omega)).trans (by simp [go_sem, *])
        have q1_2 : w1.cell? ⟨w.heap.size, 2, none⟩ = some (.int .i64 h) := (Grown.cell g1 (by first | (simp; omega) | simp | omega)).trans (by simp [go_sem, *])
        have q1_3 : w1.cell? ⟨w.heap.size, 3, none⟩ = some (.int .i64 d) := (Grown.cell g1 (by first | (simp; omega) | simp | omega)).trans (by simp [go_sem, *])
        have q1_4 : w1.cell? ⟨w.heap.size + 1, 0, none⟩ = some (.int .i64 x) := (Grown.cell g1 (by first | (simp; omega) | simp | omega)).trans (by simp [go_sem, *])
        have q1_5 : w1.cell? ⟨w.heap.size + 1, 1, none⟩ = some (.int .i64 y) := (Grown.cell g1 (by first | (simp; omega) | simp | omega)).trans (by simp [go_sem, *])
        have G1 : Grown w w1 := Grown.trans (by first | (go_grown; done) | exact Grown.drewN (by go_grown) _) g1
        have z1_w0 : w.heap.size < w1.heap.size := by omega
        have z1_w1 : w.heap.size + 1 < w1.heap.size := by omega
        clear g1
        go_wp2_with fail
        refine (S1.out _).mono ?_
        rintro e w2 ⟨rfl, g2⟩
        have z2 := (laid g2).2.2
        try simp at z2
        have q2_0 : w2.cell? ⟨w.heap.size, 0, none⟩ = some (.int .i64 a) := (Grown.cell g2 (by first | (simp; omega) | simp | omega)).trans (by simp [go_sem, *])
        have q2_1 : w2.cell? ⟨w.heap.size, 1, none⟩ = some (.int .i64 l) := (Grown.cell g2 (by first | (simp; omega) | simp | omega)).trans (by simp [go_sem, *])
        have q2_2 : w2.cell? ⟨w.heap.size, 2, none⟩ = some (.int .i64 h) := (Grown.cell g2 (by first | (simp; omega) | simp | omega)).trans (by simp [go_sem, *])
        have q2_3 : w2.cell? ⟨w.heap.size, 3, none⟩ = some (.int .i64 d) := (Grown.cell g2 (by first | (simp; omega) | simp | omega)).trans (by simp [go_sem, *])
        have q2_4 : w2.cell? ⟨w.heap.size + 1, 0, none⟩ = some (.int .i64 x) := (Grown.cell g2 (by first | (simp; omega) | simp | omega)).trans (by simp [go_sem, *])
        have q2_5 : w2.cell? ⟨w.heap.size + 1, 1, none⟩ = some (.int .i64 y) := (Grown.cell g2 (by first | (simp; omega) | simp | omega)).trans (by simp [go_sem, *])
        have G2 : Grown w w2 := Grown.trans (by first | (go_grown; done) | exact Grown.drewN (by go_grown) _) g2
        have z2_w0 : w.heap.size < w2.heap.size := by omega
        have z2_w1 : w.heap.size + 1 < w2.heap.size := by omega
        clear g2 q1_0 q1_1 q1_2 q1_3 q1_4 q1_5
        go_wp2_with fail
        go_ret
        exact ⟨by first | rfl | (simp; omega), by go_grown⟩
    · skip
      have S1 := Lib.hid (set_apart a l h d r x y · hc hr hv (by omega))
      clear hc hr hv ho hn hb
      go_enter Try.func6, Try.ntmps6
      go_wp2_with fail
      refine (head_true _).mono ?_
      rintro e w1 ⟨rfl, g1⟩
      have z1 := (laid g1).2.2
      try simp at z1
      have q1_0 : w1.cell? ⟨w.heap.size, 0, none⟩ = some (.int .i64 a) := (Grown.cell g1 (by first | (simp; omega) | simp | omega)).trans (by simp [go_sem, *])
      have q1_1 : w1.cell? ⟨w.heap.size, 1, none⟩ = some (.int .i64 l) := (Grown.cell g1 (by first | (simp; omega) | simp | omega)).trans (by simp [go_sem, *])
      have q1_2 : w1.cell? ⟨w.heap.size, 2, none⟩ = some (.int .i64 h) := (Grown.cell g1 (by first | (simp; omega) | simp | omega)).trans (by simp [go_sem, *])
      have q1_3 : w1.cell? ⟨w.heap.size, 3, none⟩ = some (.int .i64 d) := (Grown.cell g1 (by first | (simp; omega) | simp | omega)).trans (by simp [go_sem, *])
      have q1_4 : w1.cell? ⟨w.heap.size + 1, 0, none⟩ = some (.int .i64 x) := (Grown.cell g1 (by first | (simp; omega) | simp | omega)).trans (by simp [go_sem, *])
      have q1_5 : w1.cell? ⟨w.heap.size + 1, 1, none⟩ = some (.int .i64 y) := (Grown.cell g1 (by first | (simp; omega) | simp | omega)).trans (by simp [go_sem, *])
      have G1 : Grown w w1 := Grown.trans (by first | (go_grown; done) | exact Grown.drewN (by go_grown) _) g1
      have z1_w0 : w.heap.size < w1.heap.size := by omega
      have z1_w1 : w.heap.size + 1 < w1.heap.size := by omega
      clear g1
      go_wp2_with fail
      refine (S1.out _).mono ?_
      rintro e w2 ⟨rfl, g2⟩
      have z2 := (laid g2).2.2
      try simp at z2
      have q2_0 : w2.cell? ⟨w.heap.size, 0, none⟩ = some (.int .i64 a) := (Grown.cell g2 (by first | (simp; omega) | simp | omega)).trans (by simp [go_sem, *])
      have q2_1 : w2.cell? ⟨w.heap.size, 1, none⟩ = some (.int .i64 l) := (Grown.cell g2 (by first | (simp; omega) | simp | omega)).trans (by simp [go_sem, *])
      have q2_2 : w2.cell? ⟨w.heap.size, 2, none⟩ = some (.int .i64 h) := (Grown.cell g2 (by first | (simp; omega) | simp | omega)).trans (by simp [go_sem, *])
      have q2_3 : w2.cell? ⟨w.heap.size, 3, none⟩ = some (.int .i64 d) := (Grown.cell g2 (by first | (simp; omega) | simp | omega)).trans (by simp [go_sem, *])
      have q2_4 : w2.cell? ⟨w.heap.size + 1, 0, none⟩ = some (.int .i64 x) := (Grown.cell g2 (by first | (simp; omega) | simp | omega)).trans (by simp [go_sem, *])
      have q2_5 : w2.cell? ⟨w.heap.size + 1, 1, none⟩ = some (.int .i64 y) := (Grown.cell g2 (by first | (simp; omega) | simp | omega)).trans (by simp [go_sem, *])
      have G2 : Grown w w2 := Grown.trans (by first | (go_grown; done) | exact Grown.drewN (by go_grown) _) g2
      have z2_w0 : w.heap.size < w2.heap.size := by omega
      have z2_w1 : w.heap.size + 1 < w2.heap.size := by omega
      clear g2 q1_0 q1_1 q1_2 q1_3 q1_4 q1_5
      go_wp2_with fail
      go_ret
      exact ⟨by first | rfl | (simp; omega), by go_grown⟩
  · skip
    have S1 := Lib.hid (set_bad a l h d r x y · hcr)
    clear hcr hn hb
    go_enter Try.func6, Try.ntmps6
    go_wp2_with fail
    refine (head_true _).mono ?_
    rintro e w1 ⟨rfl, g1⟩
    have z1 := (laid g1).2.2
    try simp at z1
    have q1_0 : w1.cell? ⟨w.heap.size, 0, none⟩ = some (.int .i64 a) := (Grown.cell g1 (by first | (simp; omega) | simp | omega)).trans (by simp [go_sem, *])
    have q1_1 : w1.cell? ⟨w.heap.size, 1, none⟩ = some (.int .i64 l) := (Grown.cell g1 (by first | (simp; omega) | simp | omega)).trans (by simp [go_sem, *])
    have q1_2 : w1.cell? ⟨w.heap.size, 2, none⟩ = some (.int .i64 h) := (Grown.cell g1 (by first | (simp; omega) | simp | omega)).trans (by simp [go_sem, *])
    have q1_3 : w1.cell? ⟨w.heap.size, 3, none⟩ = some (.int .i64 d) := (Grown.cell g1 (by first | (simp; omega) | simp | omega)).trans (by simp [go_sem, *])
    have q1_4 : w1.cell? ⟨w.heap.size + 1, 0, none⟩ = some (.int .i64 x) := (Grown.cell g1 (by first | (simp; omega) | simp | omega)).trans (by simp [go_sem, *])
    have q1_5 : w1.cell? ⟨w.heap.size + 1, 1, none⟩ = some (.int .i64 y) := (Grown.cell g1 (by first | (simp; omega) | simp | omega)).trans (by simp [go_sem, *])
    have G1 : Grown w w1 := Grown.trans (by first | (go_grown; done) | exact Grown.drewN (by go_grown) _) g1
    have z1_w0 : w.heap.size < w1.heap.size := by omega
    have z1_w1 : w.heap.size + 1 < w1.heap.size := by omega
    clear g1
    go_wp2_with fail
    refine (S1.out _).mono ?_
    rintro e w2 ⟨rfl, g2⟩
    have z2 := (laid g2).2.2
    try simp at z2
    have q2_0 : w2.cell? ⟨w.heap.size, 0, none⟩ = some (.int .i64 a) := (Grown.cell g2 (by first | (simp; omega) | simp | omega)).trans (by simp [go_sem, *])
    have q2_1 : w2.cell? ⟨w.heap.size, 1, none⟩ = some (.int .i64 l) := (Grown.cell g2 (by first | (simp; omega) | simp | omega)).trans (by simp [go_sem, *])
    have q2_2 : w2.cell? ⟨w.heap.size, 2, none⟩ = some (.int .i64 h) := (Grown.cell g2 (by first | (simp; omega) | simp | omega)).trans (by simp [go_sem, *])
    have q2_3 : w2.cell? ⟨w.heap.size, 3, none⟩ = some (.int .i64 d) := (Grown.cell g2 (by first | (simp; omega) | simp | omega)).trans (by simp [go_sem, *])
    have q2_4 : w2.cell? ⟨w.heap.size + 1, 0, none⟩ = some (.int .i64 x) := (Grown.cell g2 (by first | (simp; omega) | simp | omega)).trans (by simp [go_sem, *])
    have q2_5 : w2.cell? ⟨w.heap.size + 1, 1, none⟩ = some (.int .i64 y) := (Grown.cell g2 (by first | (simp; omega) | simp | omega)).trans (by simp [go_sem, *])
    have G2 : Grown w w2 := Grown.trans (by first | (go_grown; done) | exact Grown.drewN (by go_grown) _) g2
    have z2_w0 : w.heap.size < w2.heap.size := by omega
    have z2_w1 : w.heap.size + 1 < w2.heap.size := by omega
    clear g2 q1_0 q1_1 q1_2 q1_3 q1_4 q1_5
    go_wp2_with fail
    go_ret
    exact ⟨by first | rfl | (simp; omega), by go_grown⟩
end Ck
end Go.Proofs.Ytndabfpinkakbaa
