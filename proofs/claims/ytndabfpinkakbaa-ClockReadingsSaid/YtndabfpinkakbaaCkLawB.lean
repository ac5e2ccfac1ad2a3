/-
  The law ClockReadings.
-/
import Derived.Test.YtndabfpinkakbaaCkHead
namespace Go.Proofs.Ytndabfpinkakbaa
open Go.RowKit Sn
namespace Ck
set_option maxRecDepth 100000
set_option maxHeartbeats 4000000 in
theorem readings_true (a l h d r t : Int) (w : World) : Calls Try.prog 5 #[.agg #[.int .i64 a, .int .i64 l, .int .i64 h, .int .i64 d], .int .i64 r, .int .i64 t] w fun e w' => e = .returned (.bool true) ∧ Grown w w' := by
  by_cases hc : Cv a l h d
  · by_cases hr : Rd r
    · by_cases t0 : -1000000000000 ≤ t
      · by_cases t1 : t ≤ 1000000000000
        · obtain ⟨k, hk⟩ := fi_some a h t hc.2.2
          obtain ⟨j, hj⟩ := la_some a l t hc.2.2
          by_cases hkj : (j : Int) - 1 < k
          · skip
            have T1 := Lib.hid (true_ok a l h d r · hc hr)
            have F1 := Lib.hid (reading_none a l h d t k j · hc ⟨t0, t1⟩ hk hj hkj)
            have IC : Hid (hs (tl a l d r) (th a h d r) t = false) := Lib.hid (decide_eq_false (fun m => by have := (fi_la hk hj hr).2 m; omega))
            clear hc hr hk hj hkj
            generalize tl a l d r = p at *
            generalize th a h d r = q at *
            go_enter Try.func5, Try.ntmps5
            go_wp2_with fail
            refine (head_true _).mono ?_
            rintro e w1 ⟨rfl, g1⟩
            have z1 := (laid g1).2.2
            try simp at z1
            have q1_0 : w1.cell? ⟨w.heap.size, 0, none⟩ = some (.int .i64 a) := (Grown.cell g1 (by first | (simp; omega) | simp | omega)).trans (by simp [go_sem, *])
            have q1_1 : w1.cell? ⟨w.heap.size, 1, none⟩ = some (.int .i64 l) := (Grown.cell g1 (by first | (simp; omega) | simp | omega)).trans (by simp [go_sem, *])
            have q1_2 : w1.cell? ⟨w.heap.size, 2, none⟩ = some (.int .i64 h) := (Grown.cell g1 (by first | (simp; omega) | simp | omega)).trans (by simp [go_sem, *])
            have q1_3 : w1.cell? ⟨w.heap.size, 3, none⟩ = some (.int .i64 d) := (Grown.cell g1 (by first | (simp; omega) | simp | omega)).trans (by simp [go_sem, *])
            have G1 : Grown w w1 := Grown.trans (by first | (go_grown; done) | exact Grown.drewN (by go_grown) _) g1
            have z1_w0 : w.heap.size < w1.heap.size := by omega
            clear g1
            go_wp2_with fail
            refine (T1.out _).mono ?_
            rintro e w2 ⟨rfl, g2⟩
            have z2 := (laid g2).2.2
            try simp at z2
            have q2_0 : w2.cell? ⟨w.heap.size, 0, none⟩ = some (.int .i64 a) := (Grown.cell g2 (by first | (simp; omega) | simp | omega)).trans (by simp [go_sem, *])
            have q2_1 : w2.cell? ⟨w.heap.size, 1, none⟩ = some (.int .i64 l) := (Grown.cell g2 (by first | (simp; omega) | simp | omega)).trans (by simp [go_sem, *])
            have q2_2 : w2.cell? ⟨w.heap.size, 2, none⟩ = some (.int .i64 h) := (Grown.cell g2 (by first | (simp; omega) | simp | omega)).trans (by simp [go_sem, *])
            have q2_3 : w2.cell? ⟨w.heap.size, 3, none⟩ = some (.int .i64 d) := (Grown.cell g2 (by first | (simp; omega) | simp | omega)).trans (by simp [go_sem, *])
            have G2 : Grown w w2 := Grown.trans (by first | (go_grown; done) | exact Grown.drewN (by go_grown) _) g2
            have z2_w0 : w.heap.size < w2.heap.size := by omega
            clear g2 q1_0 q1_1 q1_2 q1_3
            go_wp2_with fail
            refine (F1.out _).mono ?_
            rintro e w3 ⟨rfl, g3⟩
            have z3 := (laid g3).2.2
            try simp at z3
            have q3_0 : w3.cell? ⟨w.heap.size, 0, none⟩ = some (.int .i64 a) := (Grown.cell g3 (by first | (simp; omega) | simp | omega)).trans (by simp [go_sem, *])
            have q3_1 : w3.cell? ⟨w.heap.size, 1, none⟩ = some (.int .i64 l) := (Grown.cell g3 (by first | (simp; omega) | simp | omega)).trans (by simp [go_sem, *])
            have q3_2 : w3.cell? ⟨w.heap.size, 2, none⟩ = some (.int .i64 h) := (Grown.cell g3 (by first | (simp; omega) | simp | omega)).trans (by simp [go_sem, *])
            have q3_3 : w3.cell? ⟨w.heap.size, 3, none⟩ = some (.int .i64 d) := (Grown.cell g3 (by first | (simp; omega) | simp | omega)).trans (by simp [go_sem, *])
            have q3_4 : w3.cell? ⟨w2.heap.size, 0, none⟩ = some (.int .i64 p) := (Grown.cell g3 (by first | (simp; omega) | simp | omega)).trans (by simp [go_sem, *])
            have q3_5 : w3.cell? ⟨w2.heap.size, 1, none⟩ = some (.int .i64 q) := (Grown.cell g3 (by first | (simp; omega) | simp | omega)).trans (by simp [go_sem, *])
            have G3 : Grown w w3 := Grown.trans (by first | (go_grown; done) | exact Grown.drewN (by go_grown) _) g3
            have z3_w0 : w.heap.size < w3.heap.size := by omega
            have z3_w20 : w2.heap.size < w3.heap.size := by omega
            clear g3 q2_0 q2_1 q2_2 q2_3
            go_wp2_with fail
            refine (refIn_any _ _ _ _).mono ?_
            rintro e w4 ⟨rfl, g4⟩
            have z4 := (laid g4).2.2
            try simp at z4
            have q4_0 : w4.cell? ⟨w2.heap.size, 0, none⟩ = some (.int .i64 p) := (Grown.cell g4 (by first | (simp; omega) | simp | omega)).trans (by simp [go_sem, *])
            have q4_1 : w4.cell? ⟨w2.heap.size, 1, none⟩ = some (.int .i64 q) := (Grown.cell g4 (by first | (simp; omega) | simp | omega)).trans (by simp [go_sem, *])
            have G4 : Grown w w4 := Grown.trans (by first | (go_grown; done) | exact Grown.drewN (by go_grown) _) g4
            have z4_w0 : w.heap.size < w4.heap.size := by omega
            have z4_w20 : w2.heap.size < w4.heap.size := by omega
            clear g4 q3_0 q3_1 q3_2 q3_3 q3_4 q3_5
            rw [IC.out]
            go_wp2_with fail
            go_ret
            exact ⟨by first | rfl | (simp; omega), by go_grown⟩
          · by_cases hin : tl a l d r ≤ t ∧ t ≤ th a h d r
            · skip
              have T1 := Lib.hid (true_ok a l h d r · hc hr)
              have F1 := Lib.hid (reading_ok a l h d t k j · hc ⟨t0, t1⟩ hk hj (by omega))
              have E1 : Hid (hs k ((j : Int) - 1) r = true) := Lib.hid (decide_eq_true ((fi_la hk hj hr).2 hin))
              have E2 : Hid (hs (tl a l d r) (th a h d r) t = true) := Lib.hid (decide_eq_true hin)
              have j0 := hj.1
              have k0 := hk.1
              clear hc hr hk hj hkj hin
              generalize tl a l d r = p at *
              generalize th a h d r = q at *
              generalize (k : Int) = x at *
              generalize (j : Int) - 1 = v at *
              go_enter Try.func5, Try.ntmps5
              go_wp2_with fail
              refine (head_true _).mono ?_
              rintro e w1 ⟨rfl, g1⟩
              have z1 := (laid g1).2.2
              try simp at z1
              have q1_0 : w1.cell? ⟨w.heap.size, 0, none⟩ = some (.int .i64 a) := (Grown.cell g1 (by first | (simp; omega) | simp | omega)).trans (by simp [go_sem, *])
              have q1_1 : w1.cell? ⟨w.heap.size, 1, none⟩ = some (.int .i64 l) := (Grown.cell g1 (by first | (simp; omega) | simp | omega)).trans (by simp [go_sem, *])
              have q1_2 : w1.cell? ⟨w.heap.size, 2, none⟩ = some (.int .i64 h) := (Grown.cell g1 (by first | (simp; omega) | simp | omega)).trans (by simp [go_sem, *])
              have q1_3 : w1.cell? ⟨w.heap.size, 3, none⟩ = some (.int .i64 d) := (Grown.cell g1 (by first | (simp; omega) | simp | omega)).trans (by simp [go_sem, *])
              have G1 : Grown w w1 := Grown.trans (by first | (go_grown; done) | exact Grown.drewN (by go_grown) _) g1
              have z1_w0 : w.heap.size < w1.heap.size := by omega
              clear g1
              go_wp2_with fail
              refine (T1.out _).mono ?_
              rintro e w2 ⟨rfl, g2⟩
              have z2 := (laid g2).2.2
              try simp at z2
              have q2_0 : w2.cell? ⟨w.heap.size, 0, none⟩ = some (.int .i64 a) := (Grown.cell g2 (by first | (simp; omega) | simp | omega)).trans (by simp [go_sem, *])
              have q2_1 : w2.cell? ⟨w.heap.size, 1, none⟩ = some (.int .i64 l) := (Grown.cell g2 (by first | (simp; omega) | simp | omega)).trans (by simp [go_sem, *])
              have q2_2 : w2.cell? ⟨w.heap.size, 2, none⟩ = some (.int .i64 h) := (Grown.cell g2 (by first | (simp; omega) | simp | omega)).trans (by simp [go_sem, *])
              have q2_3 : w2.cell? ⟨w.heap.size, 3, none⟩ = some (.int .i64 d) := (Grown.cell g2 (by first | (simp; omega) | simp | omega)).trans (by simp [go_sem, *])
              have G2 : Grown w w2 := Grown.trans (by first | (go_grown; done) | exact Grown.drewN (by go_grown) _) g2
              have z2_w0 : w.heap.size < w2.heap.size := by omega
              clear g2 q1_0 q1_1 q1_2 q1_3
              go_wp2_with fail
              refine (F1.out _).mono ?_
              rintro e w3 ⟨rfl, g3⟩
              have z3 := (laid g3).2.2
              try simp at z3
              have q3_0 : w3.cell? ⟨w.heap.size, 0, none⟩ = some (.int .i64 a) := (Grown.cell g3 (by first | (simp; omega) | simp | omega)).trans (by simp [go_sem, *])
              have q3_1 : w3.cell? ⟨w.heap.size, 1, none⟩ = some (.int .i64 l) := (Grown.cell g3 (by first | (simp; omega) | simp | omega)).trans (by simp [go_sem, *])
              have q3_2 : w3.cell? ⟨w.heap.size, 2, none⟩ = some (.int .i64 h) := (Grown.cell g3 (by first | (simp; omega) | simp | omega)).trans (by simp [go_sem, *])
              have q3_3 : w3.cell? ⟨w.heap.size, 3, none⟩ = some (.int .i64 d) := (Grown.cell g3 (by first | (simp; omega) | simp | omega)).trans (by simp [go_sem, *])
              have q3_4 : w3.cell? ⟨w2.heap.size, 0, none⟩ = some (.int .i64 p) := (Grown.cell g3 (by first | (simp; omega) | simp | omega)).trans (by simp [go_sem, *])
              have q3_5 : w3.cell? ⟨w2.heap.size, 1, none⟩ = some (.int .i64 q) := (Grown.cell g3 (by first | (simp; omega) | simp | omega)).trans (by simp [go_sem, *])
              have G3 : Grown w w3 := Grown.trans (by first | (go_grown; done) | exact Grown.drewN (by go_grown) _) g3
              have z3_w0 : w.heap.size < w3.heap.size := by omega
              have z3_w20 : w2.heap.size < w3.heap.size := by omega
              clear g3 q2_0 q2_1 q2_2 q2_3
              go_wp2_with fail
              go_region_held3 (fun W => W.cell? ⟨w2.heap.size, 0, none⟩ = some (.int .i64 p) ∧ W.cell? ⟨w2.heap.size, 1, none⟩ = some (.int .i64 q) ∧ W.cell? ⟨w3.heap.size, 0, none⟩ = some (.int .i64 x) ∧ W.cell? ⟨w3.heap.size, 1, none⟩ = some (.int .i64 v)) (simp [go_sem, *])
                (first | (go_at_call 21; refine (refIn_any _ _ _ _).mono ?_; rintro e w5 ⟨rfl, g5⟩; (first | rw [E1.out] | rw [E2.out]); obtain ⟨c5, f5, z5⟩ := laid g5; (try simp at z5); (try simp only [World.size_drew, World.cell?_drew] at c5); have G5 : Grown w w5 := Grown.trans (by go_grown) g5; clear g5; have z5_0 : w2.heap.size < w5.heap.size := (by omega); have z5_1 : w3.heap.size < w5.heap.size := (by omega)))
              go_wp2_with fail
              go_ret
              exact ⟨by first | rfl | (simp; omega), by go_grown⟩
            · skip
              have T1 := Lib.hid (true_ok a l h d r · hc hr)
              have F1 := Lib.hid (reading_ok a l h d t k j · hc ⟨t0, t1⟩ hk hj (by omega))
              have E1 : Hid (hs k ((j : Int) - 1) r = false) := Lib.hid (decide_eq_false (fun m => hin ((fi_la hk hj hr).1 m)))
              have E2 : Hid (hs (tl a l d r) (th a h d r) t = false) := Lib.hid (decide_eq_false hin)
              have j0 := hj.1
              have k0 := hk.1
              clear hc hr hk hj hkj hin
              generalize tl a l d r = p at *
              generalize th a h d r = q at *
              generalize (k : Int) = x at *
              generalize (j : Int) - 1 = v at *
              go_enter Try.func5, Try.ntmps5
              go_wp2_with fail
              refine (head_true _).mono ?_
              rintro e w1 ⟨rfl, g1⟩
              have z1 := (laid g1).2.2
              try simp at z1
              have q1_0 : w1.cell? ⟨w.heap.size, 0, none⟩ = some (.int .i64 a) := (Grown.cell g1 (by first | (simp; omega) | simp | omega)).trans (by simp [go_sem, *])
              have q1_1 : w1.cell? ⟨w.heap.size, 1, none⟩ = some (.int .i64 l) := (Grown.cell g1 (by first | (simp; omega) | simp | omega)).trans (by simp [go_sem, *])
              have q1_2 : w1.cell? ⟨w.heap.size, 2, none⟩ = some (.int .i64 h) := (Grown.cell g1 (by first | (simp; omega) | simp | omega)).trans (by simp [go_sem, *])
              have q1_3 : w1.cell? ⟨w.heap.size, 3, none⟩ = some (.int .i64 d) := (Grown.cell g1 (by first | (simp; omega) | simp | omega)).trans (by simp [go_sem, *])
              have G1 : Grown w w1 := Grown.trans (by first | (go_grown; done) | exact Grown.drewN (by go_grown) _) g1
              have z1_w0 : w.heap.size < w1.heap.size := by omega
              clear g1
              go_wp2_with fail
              refine (T1.out _).mono ?_
              rintro e w2 ⟨rfl, g2⟩
              have z2 := (laid g2).2.2
              try simp at z2
              have q2_0 : w2.cell? ⟨w.heap.size, 0, none⟩ = some (.int .i64 a) := (Grown.cell g2 (by first | (simp; omega) | simp | omega)).trans (by simp [go_sem, *])
              have q2_1 : w2.cell? ⟨w.heap.size, 1, none⟩ = some (.int .i64 l) := (Grown.cell g2 (by first | (simp; omega) | simp | omega)).trans (by simp [go_sem, *])
              have q2_2 : w2.cell? ⟨w.heap.size, 2, none⟩ = some (.int .i64 h) := (Grown.cell g2 (by first | (simp; omega) | simp | omega)).trans (by simp [go_sem, *])
              have q2_3 : w2.cell? ⟨w.heap.size, 3, none⟩ = some (.int .i64 d) := (Grown.cell g2 (by first | (simp; omega) | simp | omega)).trans (by simp [go_sem, *])
              have G2 : Grown w w2 := Grown.trans (by first | (go_grown; done) | exact Grown.drewN (by go_grown) _) g2
              have z2_w0 : w.heap.size < w2.heap.size := by omega
              clear g2 q1_0 q1_1 q1_2 q1_3
              go_wp2_with fail
              refine (F1.out _).mono ?_
              rintro e w3 ⟨rfl, g3⟩
              have z3 := (laid g3).2.2
              try simp at z3
              have q3_0 : w3.cell? ⟨w.heap.size, 0, none⟩ = some (.int .i64 a) := (Grown.cell g3 (by first | (simp; omega) | simp | omega)).trans (by simp [go_sem, *])
              have q3_1 : w3.cell? ⟨w.heap.size, 1, none⟩ = some (.int .i64 l) := (Grown.cell g3 (by first | (simp; omega) | simp | omega)).trans (by simp [go_sem, *])
              have q3_2 : w3.cell? ⟨w.heap.size, 2, none⟩ = some (.int .i64 h) := (Grown.cell g3 (by first | (simp; omega) | simp | omega)).trans (by simp [go_sem, *])
              have q3_3 : w3.cell? ⟨w.heap.size, 3, none⟩ = some (.int .i64 d) := (Grown.cell g3 (by first | (simp; omega) | simp | omega)).trans (by simp [go_sem, *])
              have q3_4 : w3.cell? ⟨w2.heap.size, 0, none⟩ = some (.int .i64 p) := (Grown.cell g3 (by first | (simp; omega) | simp | omega)).trans (by simp [go_sem, *])
              have q3_5 : w3.cell? ⟨w2.heap.size, 1, none⟩ = some (.int .i64 q) := (Grown.cell g3 (by first | (simp; omega) | simp | omega)).trans (by simp [go_sem, *])
              have G3 : Grown w w3 := Grown.trans (by first | (go_grown; done) | exact Grown.drewN (by go_grown) _) g3
              have z3_w0 : w.heap.size < w3.heap.size := by omega
              have z3_w20 : w2.heap.size < w3.heap.size := by omega
              clear g3 q2_0 q2_1 q2_2 q2_3
              go_wp2_with fail
              go_region_held3 (fun W => W.cell? ⟨w2.heap.size, 0, none⟩ = some (.int .i64 p) ∧ W.cell? ⟨w2.heap.size, 1, none⟩ = some (.int .i64 q) ∧ W.cell? ⟨w3.heap.size, 0, none⟩ = some (.int .i64 x) ∧ W.cell? ⟨w3.heap.size, 1, none⟩ = some (.int .i64 v)) (simp [go_sem, *])
                (first | (go_at_call 21; refine (refIn_any _ _ _ _).mono ?_; rintro e w5 ⟨rfl, g5⟩; (first | rw [E1.out] | rw [E2.out]); obtain ⟨c5, f5, z5⟩ := laid g5; (try simp at z5); (try simp only [World.size_drew, World.cell?_drew] at c5); have G5 : Grown w w5 := Grown.trans (by go_grown) g5; clear g5; have z5_0 : w2.heap.size < w5.heap.size := (by omega); have z5_1 : w3.heap.size < w5.heap.size := (by omega)))
              go_wp2_with fail
              go_ret
              exact ⟨by first | rfl | (simp; omega), by go_grown⟩
        · skip
          have T1 := Lib.hid (true_ok a l h d r · hc hr)
          clear hc hr
          generalize tl a l d r = p at *
          generalize th a h d r = q at *
          go_enter Try.func5, Try.ntmps5
          go_wp2_with fail
          refine (head_true _).mono ?_
          rintro e w1 ⟨rfl, g1⟩
          have z1 := (laid g1).2.2
          try simp at z1
          have q1_0 : w1.cell? ⟨w.heap.size, 0, none⟩ = some (.int .i64 a) := (Grown.cell g1 (by first | (simp; omega) | simp | omega)).trans (by simp [go_sem, *])
          have q1_1 : w1.cell? ⟨w.heap.size, 1, none⟩ = some (.int .i64 l) := (Grown.cell g1 (by first | (simp; omega) | simp | omega)).trans (by simp [go_sem, *])
          have q1_2 : w1.cell? ⟨w.heap.size, 2, none⟩ = some (.int .i64 h) := (Grown.cell g1 (by first | (simp; omega) | simp | omega)).trans (by simp [go_sem, *])
          have q1_3 : w1.cell? ⟨w.heap.size, 3, none⟩ = some (.int .i64 d) := (Grown.cell g1 (by first | (simp; omega) | simp | omega)).trans (by simp [go_sem, *])
          have G1 : Grown w w1 := Grown.trans (by first | (go_grown; done) | exact Grown.drewN (by go_grown) _) g1
          have z1_w0 : w.heap.size < w1.heap.size := by omega
          clear g1
          go_wp2_with fail
          refine (T1.out _).mono ?_
          rintro e w2 ⟨rfl, g2⟩
          have z2 := (laid g2).2.2
          try simp at z2
          have q2_0 : w2.cell? ⟨w.heap.size, 0, none⟩ = some (.int .i64 a) := (Grown.cell g2 (by first | (simp; omega) | simp | omega)).trans (by simp [go_sem, *])
          have q2_1 : w2.cell? ⟨w.heap.size, 1, none⟩ = some (.int .i64 l) := (Grown.cell g2 (by first | (simp; omega) | simp | omega)).trans (by simp [go_sem, *])
          have q2_2 : w2.cell? ⟨w.heap.size, 2, none⟩ = some (.int .i64 h) := (Grown.cell g2 (by first | (simp; omega) | simp | omega)).trans (by simp [go_sem, *])
          have q2_3 : w2.cell? ⟨w.heap.size, 3, none⟩ = some (.int .i64 d) := (Grown.cell g2 (by first | (simp; omega) | simp | omega)).trans (by simp [go_sem, *])
          have G2 : Grown w w2 := Grown.trans (by first | (go_grown; done) | exact Grown.drewN (by go_grown) _) g2
          have z2_w0 : w.heap.size < w2.heap.size := by omega
          clear g2 q1_0 q1_1 q1_2 q1_3
          go_wp2_with fail
          go_ret
          exact ⟨by first | rfl | (simp; omega), by go_grown⟩
      · skip
        have T1 := Lib.hid (true_ok a l h d r · hc hr)
        clear hc hr
        generalize tl a l d r = p at *
        generalize th a h d r = q at *
        go_enter Try.func5, Try.ntmps5
        go_wp2_with fail
        refine (head_true _).mono ?_
        rintro e w1 ⟨rfl, g1⟩
        have z1 := (laid g1).2.2
        try simp at z1
        have q1_0 : w1.cell? ⟨w.heap.size, 0, none⟩ = some (.int .i64 a) := (Grown.cell g1 (by first | (simp; omega) | simp | omega)).trans (by simp [go_sem, *])
        have q1_1 : w1.cell? ⟨w.heap.size, 1, none⟩ = some (.int .i64 l) := (Grown.cell g1 (by first | (simp; omega) | simp | omega)).trans (by simp [go_sem, *])
        have q1_2 : w1.cell? ⟨w.heap.size, 2, none⟩ = some (.int .i64 h) := (Grown.cell g1 (by first | (simp; omega) | simp | omega)).trans (by simp [go_sem, *])
        have q1_3 : w1.cell? ⟨w.heap.size, 3, none⟩ = some (.int .i64 d) := (Grown.cell g1 (by first | (simp; omega) | simp | omega)).trans (by simp [go_sem, *])
        have G1 : Grown w w1 := Grown.trans (by first | (go_grown; done) | exact Grown.drewN (by go_grown) _) g1
        have z1_w0 : w.heap.size < w1.heap.size := by omega
        clear g1
        go_wp2_with fail
        refine (T1.out _).mono ?_
        rintro e w2 ⟨rfl, g2⟩
        have z2 := (laid g2).2.2
        try simp at z2
        have q2_0 : w2.cell? ⟨w.heap.size, 0, none⟩ = some (.int .i64 a) := (Grown.cell g2 (by first | (simp; omega) | simp | omega)).trans (by simp [go_sem, *])
        have q2_1 : w2.cell? ⟨w.heap.size, 1, none⟩ = some (.int .i64 l) := (Grown.cell g2 (by first | (simp; omega) | simp | omega)).trans (by simp [go_sem, *])
        have q2_2 : w2.cell? ⟨w.heap.size, 2, none⟩ = some (.int .i64 h) := (Grown.cell g2 (by first | (simp; omega) | simp | omega)).trans (by simp [go_sem, *])
        have q2_3 : w2.cell? ⟨w.heap.size, 3, none⟩ = some (.int .i64 d) := (Grown.cell g2 (by first | (simp; omega) | simp | omega)).trans (by simp [go_sem, *])
        have G2 : Grown w w2 := Grown.trans (by first | (go_grown; done) | exact Grown.drewN (by go_grown) _) g2
        have z2_w0 : w.heap.size < w2.heap.size := by omega
        clear g2 q1_0 q1_1 q1_2 q1_3
        go_wp2_with fail
        go_ret
        exact ⟨by first | rfl | (simp; omega), by go_grown⟩
    · skip
      have T1 := Lib.hid (true_bad a l h d r · (fun t => hr t.2))
      clear hc hr
      go_enter Try.func5, Try.ntmps5
      go_wp2_with fail
      refine (head_true _).mono ?_
      rintro e w1 ⟨rfl, g1⟩
      have z1 := (laid g1).2.2
      try simp at z1
      have q1_0 : w1.cell? ⟨w.heap.size, 0, none⟩ = some (.int .i64 a) := (Grown.cell g1 (by first | (simp; omega) | simp | omega)).trans (by simp [go_sem, *])
      have q1_1 : w1.cell? ⟨w.heap.size, 1, none⟩ = some (.int .i64 l) := (Grown.cell g1 (by first | (simp; omega) | simp | omega)).trans (by simp [go_sem, *])
      have q1_2 : w1.cell? ⟨w.heap.size, 2, none⟩ = some (.int .i64 h) := (Grown.cell g1 (by first | (simp; omega) | simp | omega)).trans (by simp [go_sem, *])
      have q1_3 : w1.cell? ⟨w.heap.size, 3, none⟩ = some (.int .i64 d) := (Grown.cell g1 (by first | (simp; omega) | simp | omega)).trans (by simp [go_sem, *])
      have G1 : Grown w w1 := Grown.trans (by first | (go_grown; done) | exact Grown.drewN (by go_grown) _) g1
      have z1_w0 : w.heap.size < w1.heap.size := by omega
      clear g1
      go_wp2_with fail
      refine (T1.out _).mono ?_
      rintro e w2 ⟨rfl, g2⟩
      have z2 := (laid g2).2.2
      try simp at z2
      have q2_0 : w2.cell? ⟨w.heap.size, 0, none⟩ = some (.int .i64 a) := (Grown.cell g2 (by first | (simp; omega) | simp | omega)).trans (by simp [go_sem, *])
      have q2_1 : w2.cell? ⟨w.heap.size, 1, none⟩ = some (.int .i64 l) := (Grown.cell g2 (by first | (simp; omega) | simp | omega)).trans (by simp [go_sem, *])
      have q2_2 : w2.cell? ⟨w.heap.size, 2, none⟩ = some (.int .i64 h) := (Grown.cell g2 (by first | (simp; omega) | simp | omega)).trans (by simp [go_sem, *])
      have q2_3 : w2.cell? ⟨w.heap.size, 3, none⟩ = some (.int .i64 d) := (Grown.cell g2 (by first | (simp; omega) | simp | omega)).trans (by simp [go_sem, *])
      have G2 : Grown w w2 := Grown.trans (by first | (go_grown; done) | exact Grown.drewN (by go_grown) _) g2
      have z2_w0 : w.heap.size < w2.heap.size := by omega
      clear g2 q1_0 q1_1 q1_2 q1_3
      go_wp2_with fail
      go_ret
      exact ⟨by first | rfl | (simp; omega), by go_grown⟩
  · skip
    have T1 := Lib.hid (true_bad a l h d r · (fun t => hc t.1))
    clear hc
    go_enter Try.func5, Try.ntmps5
    go_wp2_with fail
    refine (head_true _).mono ?_
    rintro e w1 ⟨rfl, g1⟩
    have z1 := (laid g1).2.2
    try simp at z1
    have q1_0 : w1.cell? ⟨w.heap.size, 0, none⟩ = some (.int .i64 a) := (Grown.cell g1 (by first | (simp; omega) | simp | omega)).trans (by simp [go_sem, *])
    have q1_1 : w1.cell? ⟨w.heap.size, 1, none⟩ = some (.int .i64 l) := (Grown.cell g1 (by first | (simp; omega) | simp | omega)).trans (by simp [go_sem, *])
    have q1_2 : w1.cell? ⟨w.heap.size, 2, none⟩ = some (.int .i64 h) := (Grown.cell g1 (by first | (simp; omega) | simp | omega)).trans (by simp [go_sem, *])
    have q1_3 : w1.cell? ⟨w.heap.size, 3, none⟩ = some (.int .i64 d) := (Grown.cell g1 (by first | (simp; omega) | simp | omega)).trans (by simp [go_sem, *])
    have G1 : Grown w w1 := Grown.trans (by first | (go_grown; done) | exact Grown.drewN (by go_grown) _) g1
    have z1_w0 : w.heap.size < w1.heap.size := by omega
    clear g1
    go_wp2_with fail
    refine (T1.out _).mono ?_
    rintro e w2 ⟨rfl, g2⟩
    have z2 := (laid g2).2.2
    try simp at z2
    have q2_0 : w2.cell? ⟨w.heap.size, 0, none⟩ = some (.int .i64 a) := (Grown.cell g2 (by first | (simp; omega) | simp | omega)).trans (by simp [go_sem, *])
    have q2_1 : w2.cell? ⟨w.heap.size, 1, none⟩ = some (.int .i64 l) := (Grown.cell g2 (by first | (simp; omega) | simp | omega)).trans (by simp [go_sem, *])
    have q2_2 : w2.cell? ⟨w.heap.size, 2, none⟩ = some (.int .i64 h) := (Grown.cell g2 (by first | (simp; omega) | simp | omega)).trans (by simp [go_sem, *])
    have q2_3 : w2.cell? ⟨w.heap.size, 3, none⟩ = some (.int .i64 d) := (Grown.cell g2 (by first | (simp; omega) | simp | omega)).trans (by simp [go_sem, *])
    have G2 : Grown w w2 := Grown.trans (by first | (go_grown; done) | exact Grown.drewN (by go_grown) _) g2
    have z2_w0 : w.heap.size < w2.heap.size := by omega
    clear g2 q1_0 q1_1 q1_2 q1_3
    go_wp2_with fail
    go_ret
    exact ⟨by first | rfl | (simp; omega), by go_grown⟩
end Ck
end Go.Proofs.Ytndabfpinkakbaa
