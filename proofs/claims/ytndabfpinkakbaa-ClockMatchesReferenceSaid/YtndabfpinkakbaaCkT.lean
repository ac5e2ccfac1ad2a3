/-
  The reference of layer 14: Set.
-/
import Derived.Test.YtndabfpinkakbaaCkR
import Derived.Test.YtndabfpinkakbaaCkD
namespace Go.Proofs.Ytndabfpinkakbaa
open Go.RowKit Sn
namespace Ck
set_option maxRecDepth 100000
namespace R
set_option maxHeartbeats 4000000 in
theorem set_bad (a l h d r x y : Int) (w : World) (hn : ¬ (Cv a l h d ∧ Rd r ∧ Vd x y)) : Calls Try.prog 18 #[.agg #[.int .i64 a, .int .i64 l, .int .i64 h, .int .i64 d], .int .i64 r, .agg #[.int .i64 x, .int .i64 y]] w fun e w' => e = .returned (.tuple #[.agg #[.int .i64 0, .int .i64 0, .int .i64 0, .int .i64 0], .bool false, .int .i64 1]) ∧ Grown w w' := by
  by_cases hc : Cv a l h d
  · by_cases hr : Rd r
    · have hv : ¬ Vd x y := fun hv => hn ⟨hc, hr, hv⟩
      have V := Lib.hid (valid_yes a l h d · hc)
      have T : Hid (tm r = true) := Lib.hid (by unfold tm; simp [hr])
      have Q : Hid (∀ W : World, Calls Try.prog 29 #[.agg #[.int .i64 x, .int .i64 y]] W fun e w' => e = .returned (.bool false) ∧ Grown W w') := Lib.hid (fun W => refValid_no x y W hv)
      clear hn hc hr hv
      go_enter Try.func18, Try.ntmps18
      go_wp2_with fail
      refine (V.out _).mono ?_
      rintro e w1 ⟨rfl, g1⟩
      obtain ⟨c1, f1, z1⟩ := laid g1
      try simp at z1
      have G1 : Grown w w1 := Grown.trans (by go_grown) g1
      clear g1
      have z1_w0 : w.heap.size < w1.heap.size := by omega
      have z1_w1 : w.heap.size + 1 < w1.heap.size := by omega
      have z1_w2 : w.heap.size + 1 + 1 < w1.heap.size := by omega
      go_wp2_with fail
      refine (Q.out _).mono ?_
      rintro e w2 ⟨rfl, g2⟩
      obtain ⟨c2, f2, z2⟩ := laid g2
      try simp at z2
      have G2 : Grown w w2 := Grown.trans (by go_grown) g2
      clear g2
      have z2_w0 : w.heap.size < w2.heap.size := by omega
      have z2_w1 : w.heap.size + 1 < w2.heap.size := by omega
      have z2_w2 : w.heap.size + 1 + 1 < w2.heap.size := by omega
      go_wp2_with fail
      refine (time_c _ _).mono ?_
      rintro e w' ⟨rfl, rfl⟩
      rw [T.out]
      go_wp2_with fail
      exact bodyPost_ret (v := .tuple #[.agg #[.int .i64 0, .int .i64 0, .int .i64 0, .int .i64 0], .bool false, .int .i64 1]) (by simp [results, Try.results18, go_sem, *]) rfl ⟨rfl, by go_grown⟩
    · by_cases hv : Vd x y
      · have V := Lib.hid (valid_yes a l h d · hc)
        have T : Hid (tm r = false) := Lib.hid (by unfold tm; simp [hr])
        have Q : Hid (∀ W : World, Calls Try.prog 29 #[.agg #[.int .i64 x, .int .i64 y]] W fun e w' => e = .returned (.bool true) ∧ Grown W w') := Lib.hid (fun W => refValid_yes x y W hv)
        clear hn hc hr hv
        go_enter Try.func18, Try.ntmps18
        go_wp2_with fail
        refine (V.out _).mono ?_
        rintro e w1 ⟨rfl, g1⟩
        obtain ⟨c1, f1, z1⟩ := laid g1
        try simp at z1
        have G1 : Grown w w1 := Grown.trans (by go_grown) g1
        clear g1
        have z1_w0 : w.heap.size < w1.heap.size := by omega
        have z1_w1 : w.heap.size + 1 < w1.heap.size := by omega
        have z1_w2 : w.heap.size + 1 + 1 < w1.heap.size := by omega
        go_wp2_with fail
        refine (Q.out _).mono ?_
        rintro e w2 ⟨rfl, g2⟩
        obtain ⟨c2, f2, z2⟩ := laid g2
        try simp at z2
        have G2 : Grown w w2 := Grown.trans (by go_grown) g2
        clear g2
        have z2_w0 : w.heap.size < w2.heap.size := by omega
        have z2_w1 : w.heap.size + 1 < w2.heap.size := by omega
        have z2_w2 : w.heap.size + 1 + 1 < w2.heap.size := by omega
        go_wp2_with fail
        refine (time_c _ _).mono ?_
        rintro e w' ⟨rfl, rfl⟩
        rw [T.out]
        go_wp2_with fail
        exact bodyPost_ret (v := .tuple #[.agg #[.int .i64 0, .int .i64 0, .int .i64 0, .int .i64 0], .bool false, .int .i64 1]) (by simp [results, Try.results18, go_sem, *]) rfl ⟨rfl, by go_grown⟩
      · skip
        have V := Lib.hid (valid_yes a l h d · hc)
        have T : Hid (tm r = false) := Lib.hid (by unfold tm; simp [hr])
        have Q : Hid (∀ W : World, Calls Try.prog 29 #[.agg #[.int .i64 x, .int .i64 y]] W fun e w' => e = .returned (.bool false) ∧ Grown W w') := Lib.hid (fun W => refValid_no x y W hv)
        clear hn hc hr hv
        go_enter Try.func18, Try.ntmps18
        go_wp2_with fail
        refine (V.out _).mono ?_
        rintro e w1 ⟨rfl, g1⟩
        obtain ⟨c1, f1, z1⟩ := laid g1
        try simp at z1
        have G1 : Grown w w1 := Grown.trans (by go_grown) g1
        clear g1
        have z1_w0 : w.heap.size < w1.heap.size := by omega
        have z1_w1 : w.heap.size + 1 < w1.heap.size := by omega
        have z1_w2 : w.heap.size + 1 + 1 < w1.heap.size := by omega
        go_wp2_with fail
        refine (Q.out _).mono ?_
        rintro e w2 ⟨rfl, g2⟩
        obtain ⟨c2, f2, z2⟩ := laid g2
        try simp at z2
        have G2 : Grown w w2 := Grown.trans (by go_grown) g2
        clear g2
        have z2_w0 : w.heap.size < w2.heap.size := by omega
        have z2_w1 : w.heap.size + 1 < w2.heap.size := by omega
        have z2_w2 : w.heap.size + 1 + 1 < w2.heap.size := by omega
        go_wp2_with fail
        refine (time_c _ _).mono ?_
        rintro e w' ⟨rfl, rfl⟩
        rw [T.out]
        go_wp2_with fail
        exact bodyPost_ret (v := .tuple #[.agg #[.int .i64 0, .int .i64 0, .int .i64 0, .int .i64 0], .bool false, .int .i64 1]) (by simp [results, Try.results18, go_sem, *]) rfl ⟨rfl, by go_grown⟩
  · by_cases hr : Rd r
    · by_cases hv : Vd x y
      · skip
        have V := Lib.hid (valid_no a l h d · hc)
        have T : Hid (tm r = true) := Lib.hid (by unfold tm; simp [hr])
        have Q : Hid (∀ W : World, Calls Try.prog 29 #[.agg #[.int .i64 x, .int .i64 y]] W fun e w' => e = .returned (.bool true) ∧ Grown W w') := Lib.hid (fun W => refValid_yes x y W hv)
        clear hn hc hr hv
        go_enter Try.func18, Try.ntmps18
        go_wp2_with fail
        refine (V.out _).mono ?_
        rintro e w1 ⟨rfl, g1⟩
        obtain ⟨c1, f1, z1⟩ := laid g1
        try simp at z1
        have G1 : Grown w w1 := Grown.trans (by go_grown) g1
        clear g1
        have z1_w0 : w.heap.size < w1.heap.size := by omega
        have z1_w1 : w.heap.size + 1 < w1.heap.size := by omega
        have z1_w2 : w.heap.size + 1 + 1 < w1.heap.size := by omega
        go_wp2_with fail
        refine (Q.out _).mono ?_
        rintro e w2 ⟨rfl, g2⟩
        obtain ⟨c2, f2, z2⟩ := laid g2
        try simp at z2
        have G2 : Grown w w2 := Grown.trans (by go_grown) g2
        clear g2
        have z2_w0 : w.heap.size < w2.heap.size := by omega
        have z2_w1 : w.heap.size + 1 < w2.heap.size := by omega
        have z2_w2 : w.heap.size + 1 + 1 < w2.heap.size := by omega
        go_wp2_with fail
        exact bodyPost_ret (v := .tuple #[.agg #[.int .i64 0, .int .i64 0, .int .i64 0, .int .i64 0], .bool false, .int .i64 1]) (by simp [results, Try.results18, go_sem, *]) rfl ⟨rfl, by go_grown⟩
      · skip
        have V := Lib.hid (valid_no a l h d · hc)
        have T : Hid (tm r = true) := Lib.hid (by unfold tm; simp [hr])
        have Q : Hid (∀ W : World, Calls Try.prog 29 #[.agg #[.int .i64 x, .int .i64 y]] W fun e w' => e = .returned (.bool false) ∧ Grown W w') := Lib.hid (fun W => refValid_no x y W hv)
        clear hn hc hr hv
        go_enter Try.func18, Try.ntmps18
        go_wp2_with fail
        refine (V.out _).mono ?_
        rintro e w1 ⟨rfl, g1⟩
        obtain ⟨c1, f1, z1⟩ := laid g1
        try simp at z1
        have G1 : Grown w w1 := Grown.trans (by go_grown) g1
        clear g1
        have z1_w0 : w.heap.size < w1.heap.size := by omega
        have z1_w1 : w.heap.size + 1 < w1.heap.size := by omega
        have z1_w2 : w.heap.size + 1 + 1 < w1.heap.size := by omega
        go_wp2_with fail
        refine (Q.out _).mono ?_
        rintro e w2 ⟨rfl, g2⟩
        obtain ⟨c2, f2, z2⟩ := laid g2
        try simp at z2
        have G2 : Grown w w2 := Grown.trans (by go_grown) g2
        clear g2
        have z2_w0 : w.heap.size < w2.heap.size := by omega
        have z2_w1 : w.heap.size + 1 < w2.heap.size := by omega
        have z2_w2 : w.heap.size + 1 + 1 < w2.heap.size := by omega
        go_wp2_with fail
        exact bodyPost_ret (v := .tuple #[.agg #[.int .i64 0, .int .i64 0, .int .i64 0, .int .i64 0], .bool false, .int .i64 1]) (by simp [results, Try.results18, go_sem, *]) rfl ⟨rfl, by go_grown⟩
    · by_cases hv : Vd x y
      · skip
        have V := Lib.hid (valid_no a l h d · hc)
        have T : Hid (tm r = false) := Lib.hid (by unfold tm; simp [hr])
        have Q : Hid (∀ W : World, Calls Try.prog 29 #[.agg #[.int .i64 x, .int .i64 y]] W fun e w' => e = .returned (.bool true) ∧ Grown W w') := Lib.hid (fun W => refValid_yes x y W hv)
        clear hn hc hr hv
        go_enter Try.func18, Try.ntmps18
        go_wp2_with fail
        refine (V.out _).mono ?_
        rintro e w1 ⟨rfl, g1⟩
        obtain ⟨c1, f1, z1⟩ := laid g1
        try simp at z1
        have G1 : Grown w w1 := Grown.trans (by go_grown) g1
        clear g1
        have z1_w0 : w.heap.size < w1.heap.size := by omega
        have z1_w1 : w.heap.size + 1 < w1.heap.size := by omega
        have z1_w2 : w.heap.size + 1 + 1 < w1.heap.size := by omega
        go_wp2_with fail
        refine (Q.out _).mono ?_
        rintro e w2 ⟨rfl, g2⟩
        obtain ⟨c2, f2, z2⟩ := laid g2
        try simp at z2
        have G2 : Grown w w2 := Grown.trans (by go_grown) g2
        clear g2
        have z2_w0 : w.heap.size < w2.heap.size := by omega
        have z2_w1 : w.heap.size + 1 < w2.heap.size := by omega
        have z2_w2 : w.heap.size + 1 + 1 < w2.heap.size := by omega
        go_wp2_with fail
        exact bodyPost_ret (v := .tuple #[.agg #[.int .i64 0, .int .i64 0, .int .i64 0, .int .i64 0], .bool false, .int .i64 1]) (by simp [results, Try.results18, go_sem, *]) rfl ⟨rfl, by go_grown⟩
      · skip
        have V := Lib.hid (valid_no a l h d · hc)
        have T : Hid (tm r = false) := Lib.hid (by unfold tm; simp [hr])
        have Q : Hid (∀ W : World, Calls Try.prog 29 #[.agg #[.int .i64 x, .int .i64 y]] W fun e w' => e = .returned (.bool false) ∧ Grown W w') := Lib.hid (fun W => refValid_no x y W hv)
        clear hn hc hr hv
        go_enter Try.func18, Try.ntmps18
        go_wp2_with fail
        refine (V.out _).mono ?_
        rintro e w1 ⟨rfl, g1⟩
        obtain ⟨c1, f1, z1⟩ := laid g1
        try simp at z1
        have G1 : Grown w w1 := Grown.trans (by go_grown) g1
        clear g1
        have z1_w0 : w.heap.size < w1.heap.size := by omega
        have z1_w1 : w.heap.size + 1 < w1.heap.size := by omega
        have z1_w2 : w.heap.size + 1 + 1 < w1.heap.size := by omega
        go_wp2_with fail
        refine (Q.out _).mono ?_
        rintro e w2 ⟨rfl, g2⟩
        obtain ⟨c2, f2, z2⟩ := laid g2
        try simp at z2
        have G2 : Grown w w2 := Grown.trans (by go_grown) g2
        clear g2
        have z2_w0 : w.heap.size < w2.heap.size := by omega
        have z2_w1 : w.heap.size + 1 < w2.heap.size := by omega
        have z2_w2 : w.heap.size + 1 + 1 < w2.heap.size := by omega
        go_wp2_with fail
        exact bodyPost_ret (v := .tuple #[.agg #[.int .i64 0, .int .i64 0, .int .i64 0, .int .i64 0], .bool false, .int .i64 1]) (by simp [results, Try.results18, go_sem, *]) rfl ⟨rfl, by go_grown⟩
set_option maxHeartbeats 4000000 in
theorem set_apart (a l h d r x y : Int) (w : World) (hc : Cv a l h d) (hr : Rd r) (hv : Vd x y) (hm : mh a h d r y < ml a l d r x) : Calls Try.prog 18 #[.agg #[.int .i64 a, .int .i64 l, .int .i64 h, .int .i64 d], .int .i64 r, .agg #[.int .i64 x, .int .i64 y]] w fun e w' => e = .returned (.tuple #[.agg #[.int .i64 0, .int .i64 0, .int .i64 0, .int .i64 0], .bool false, .int .i64 0]) ∧ Grown w w' := by
  have V := Lib.hid (valid_yes a l h d · hc)
  have T : Hid (tm r = true) := Lib.hid (decide_eq_true hr)
  have Q : Hid (∀ W : World, Calls Try.prog 29 #[.agg #[.int .i64 x, .int .i64 y]] W fun e w' => e = .returned (.bool true) ∧ Grown W w') := Lib.hid (fun W => refValid_yes x y W hv)
  have O := Lib.hid (of_c a l h d r · hc hr)
  have M : Hid (∀ W : World, Calls Try.prog 36 #[.agg #[.int .i64 (tl a l d r), .int .i64 (th a h d r)], .agg #[.int .i64 x, .int .i64 y]] W fun e w' => e = .returned (.tuple #[.agg #[.int .i64 0, .int .i64 0], .bool false, .int .i64 0]) ∧ Grown W w') := Lib.hid (fun W => refMeet_none (tl a l d r) (th a h d r) x y W ⟨t_vd hc hr, hv⟩ hm)
  clear hc hr hv hm
  generalize ml a l d r x = u at *
  generalize mh a h d r y = v at *
  generalize tl a l d r = p at *
  generalize th a h d r = q at *
  go_enter Try.func18, Try.ntmps18
  go_wp2_with fail
  refine (V.out _).mono ?_
  rintro e w1 ⟨rfl, g1⟩
  obtain ⟨c1, f1, z1⟩ := laid g1
  try simp at z1
  have G1 : Grown w w1 := Grown.trans (by go_grown) g1
  clear g1
  have z1_w0 : w.heap.size < w1.heap.size := by omega
  have z1_w1 : w.heap.size + 1 < w1.heap.size := by omega
  have z1_w2 : w.heap.size + 1 + 1 < w1.heap.size := by omega
  go_wp2_with fail
  refine (Q.out _).mono ?_
  rintro e w2 ⟨rfl, g2⟩
  obtain ⟨c2, f2, z2⟩ := laid g2
  try simp at z2
  have G2 : Grown w w2 := Grown.trans (by go_grown) g2
  clear g2
  have z2_w0 : w.heap.size < w2.heap.size := by omega
  have z2_w1 : w.heap.size + 1 < w2.heap.size := by omega
  have z2_w2 : w.heap.size + 1 + 1 < w2.heap.size := by omega
  go_wp2_with fail
  refine (time_c _ _).mono ?_
  rintro e w' ⟨rfl, rfl⟩
  rw [T.out]
  go_wp2_with fail
  go_region_held3 (fun W => W.cell? ⟨w.heap.size, 0, none⟩ = some (.int .i64 a) ∧ W.cell? ⟨w.heap.size, 1, none⟩ = some (.int .i64 l) ∧ W.cell? ⟨w.heap.size, 2, none⟩ = some (.int .i64 h) ∧ W.cell? ⟨w.heap.size, 3, none⟩ = some (.int .i64 d) ∧ W.cell? ⟨w.heap.size + 1, 0, none⟩ = some (.int .i64 x) ∧ W.cell? ⟨w.heap.size + 1, 1, none⟩ = some (.int .i64 y)) (simp [go_sem, *])
    (first | (go_at_call 27; refine (O.out _).mono ?_; rintro e w4 ⟨rfl, g4⟩; obtain ⟨c4, f4, z4⟩ := laid g4; (try simp at z4); (try simp only [World.size_drew, World.cell?_drew] at c4); have G4 : Grown w w4 := Grown.trans (by go_grown) g4; clear g4; have z4_0 : w.heap.size < w4.heap.size := (by omega); have z4_1 : w.heap.size + 1 < w4.heap.size := (by omega); have z4_2 : w.heap.size + 1 + 1 < w4.heap.size := (by omega); (try (have z4_3 : w2.heap.size < w4.heap.size := (by omega)))) | (go_at_call 36; refine (M.out _).mono ?_; rintro e w5 ⟨rfl, g5⟩; obtain ⟨c5, f5, z5⟩ := laid g5; (try simp at z5); (try simp only [World.size_drew, World.cell?_drew] at c5); have G5 : Grown w w5 := Grown.trans (by go_grown) g5; clear g5; have z5_0 : w.heap.size < w5.heap.size := (by omega); have z5_1 : w.heap.size + 1 < w5.heap.size := (by omega); have z5_2 : w.heap.size + 1 + 1 < w5.heap.size := (by omega); (try (have z5_3 : w2.heap.size < w5.heap.size := (by omega))); (try (have z5_4 : w4.heap.size < w5.heap.size := (by omega)))))
  all_goals go_wp2_with fail
  all_goals exact bodyPost_ret (v := .tuple #[.agg #[.int .i64 0, .int .i64 0, .int .i64 0, .int .i64 0], .bool false, .int .i64 0]) (by simp [results, Try.results18, go_sem, *]) rfl ⟨rfl, by go_grown⟩
set_option maxHeartbeats 4000000 in
theorem set_range (a l h d r x y : Int) (w : World) (hc : Cv a l h d) (hr : Rd r) (hv : Vd x y) (hm : ml a l d r x ≤ mh a h d r y) (ho : ¬ Of (ml a l d r x - r) (mh a h d r y - r)) : Calls Try.prog 18 #[.agg #[.int .i64 a, .int .i64 l, .int .i64 h, .int .i64 d], .int .i64 r, .agg #[.int .i64 x, .int .i64 y]] w fun e w' => e = .returned (.tuple #[.agg #[.int .i64 0, .int .i64 0, .int .i64 0, .int .i64 0], .bool false, .int .i64 3]) ∧ Grown w w' := by
  have V := Lib.hid (valid_yes a l h d · hc)
  have T : Hid (tm r = true) := Lib.hid (decide_eq_true hr)
  have Q : Hid (∀ W : World, Calls Try.prog 29 #[.agg #[.int .i64 x, .int .i64 y]] W fun e w' => e = .returned (.bool true) ∧ Grown W w') := Lib.hid (fun W => refValid_yes x y W hv)
  have O := Lib.hid (of_c a l h d r · hc hr)
  have M : Hid (∀ W : World, Calls Try.prog 36 #[.agg #[.int .i64 (tl a l d r), .int .i64 (th a h d r)], .agg #[.int .i64 x, .int .i64 y]] W fun e w' => e = .returned (.tuple #[.agg #[.int .i64 (ml a l d r x), .int .i64 (mh a h d r y)], .bool true, .int .i64 0]) ∧ Grown W w') := Lib.hid (fun W => refMeet_ok (tl a l d r) (th a h d r) x y W ⟨t_vd hc hr, hv⟩ hm)
  have V2 := Lib.hid (valid_no r (ml a l d r x - r) (mh a h d r y - r) d · (fun t => ho t.2.1))
  obtain ⟨⟨u0, u1, u2⟩, _⟩ := m_vd hc hr hm
  have hr' : Rd r := hr
  obtain ⟨r0, r1⟩ := hr'
  clear ho
  clear hc hr hv hm
  generalize ml a l d r x = u at *
  generalize mh a h d r y = v at *
  generalize tl a l d r = p at *
  generalize th a h d r = q at *
  go_enter Try.func18, Try.ntmps18
  go_wp2_with fail
  refine (V.out _).mono ?_
  rintro e w1 ⟨rfl, g1⟩
  obtain ⟨c1, f1, z1⟩ := laid g1
  try simp at z1
  have G1 : Grown w w1 := Grown.trans (by go_grown) g1
  clear g1
  have z1_w0 : w.heap.size < w1.heap.size := by omega
  have z1_w1 : w.heap.size + 1 < w1.heap.size := by omega
  have z1_w2 : w.heap.size + 1 + 1 < w1.heap.size := by omega
  go_wp2_with fail
  refine (Q.out _).mono ?_
  rintro e w2 ⟨rfl, g2⟩
  obtain ⟨c2, f2, z2⟩ := laid g2
  try simp at z2
  have G2 : Grown w w2 := Grown.trans (by go_grown) g2
  clear g2
  have z2_w0 : w.heap.size < w2.heap.size := by omega
  have z2_w1 : w.heap.size + 1 < w2.heap.size := by omega
  have z2_w2 : w.heap.size + 1 + 1 < w2.heap.size := by omega
  go_wp2_with fail
  refine (time_c _ _).mono ?_
  rintro e w' ⟨rfl, rfl⟩
  rw [T.out]
  go_wp2_with fail
  go_region_held3 (fun W => W.cell? ⟨w.heap.size, 0, none⟩ = some (.int .i64 a) ∧ W.cell? ⟨w.heap.size, 1, none⟩ = some (.int .i64 l) ∧ W.cell? ⟨w.heap.size, 2, none⟩ = some (.int .i64 h) ∧ W.cell? ⟨w.heap.size, 3, none⟩ = some (.int .i64 d) ∧ W.cell? ⟨w.heap.size + 1, 0, none⟩ = some (.int .i64 x) ∧ W.cell? ⟨w.heap.size + 1, 1, none⟩ = some (.int .i64 y)) (simp [go_sem, *])
    (first | (go_at_call 27; refine (O.out _).mono ?_; rintro e w4 ⟨rfl, g4⟩; obtain ⟨c4, f4, z4⟩ := laid g4; (try simp at z4); (try simp only [World.size_drew, World.cell?_drew] at c4); have G4 : Grown w w4 := Grown.trans (by go_grown) g4; clear g4; have z4_0 : w.heap.size < w4.heap.size := (by omega); have z4_1 : w.heap.size + 1 < w4.heap.size := (by omega); have z4_2 : w.heap.size + 1 + 1 < w4.heap.size := (by omega); (try (have z4_3 : w2.heap.size < w4.heap.size := (by omega)))) | (go_at_call 36; refine (M.out _).mono ?_; rintro e w5 ⟨rfl, g5⟩; obtain ⟨c5, f5, z5⟩ := laid g5; (try simp at z5); (try simp only [World.size_drew, World.cell?_drew] at c5); have G5 : Grown w w5 := Grown.trans (by go_grown) g5; clear g5; have z5_0 : w.heap.size < w5.heap.size := (by omega); have z5_1 : w.heap.size + 1 < w5.heap.size := (by omega); have z5_2 : w.heap.size + 1 + 1 < w5.heap.size := (by omega); (try (have z5_3 : w2.heap.size < w5.heap.size := (by omega))); (try (have z5_4 : w4.heap.size < w5.heap.size := (by omega)))))
  all_goals go_wp2_with fail
  all_goals refine (V2.out _).mono ?_
  all_goals rintro e w6 ⟨rfl, g6⟩
  all_goals obtain ⟨c6, f6, z6⟩ := laid g6
  all_goals try simp at z6
  all_goals have G6 : Grown w w6 := Grown.trans (by go_grown) g6
  all_goals clear g6
  all_goals have z6_0 : w.heap.size < w6.heap.size := by omega
  all_goals have z6_1 : w.heap.size + 1 < w6.heap.size := by omega
  all_goals have z6_2 : w.heap.size + 1 + 1 < w6.heap.size := by omega
  all_goals have z6_3 : w5.heap.size < w6.heap.size := by omega
  all_goals try (have z6_4 : w5.heap.size + 1 < w6.heap.size := by omega)
  all_goals go_wp2_with fail
  all_goals exact bodyPost_ret (v := .tuple #[.agg #[.int .i64 0, .int .i64 0, .int .i64 0, .int .i64 0], .bool false, .int .i64 3]) (by simp [results, Try.results18, go_sem, *]) rfl ⟨rfl, by go_grown⟩
set_option maxHeartbeats 4000000 in
theorem set_ok (a l h d r x y : Int) (w : World) (hc : Cv a l h d) (hr : Rd r) (hv : Vd x y) (hm : ml a l d r x ≤ mh a h d r y) (ho : Of (ml a l d r x - r) (mh a h d r y - r)) : Calls Try.prog 18 #[.agg #[.int .i64 a, .int .i64 l, .int .i64 h, .int .i64 d], .int .i64 r, .agg #[.int .i64 x, .int .i64 y]] w fun e w' => e = .returned (.tuple #[.agg #[.int .i64 r, .int .i64 (ml a l d r x - r), .int .i64 (mh a h d r y - r), .int .i64 d], .bool true, .int .i64 0]) ∧ Grown w w' := by
  have V := Lib.hid (valid_yes a l h d · hc)
  have T : Hid (tm r = true) := Lib.hid (decide_eq_true hr)
  have Q : Hid (∀ W : World, Calls Try.prog 29 #[.agg #[.int .i64 x, .int .i64 y]] W fun e w' => e = .returned (.bool true) ∧ Grown W w') := Lib.hid (fun W => refValid_yes x y W hv)
  have O := Lib.hid (of_c a l h d r · hc hr)
  have M : Hid (∀ W : World, Calls Try.prog 36 #[.agg #[.int .i64 (tl a l d r), .int .i64 (th a h d r)], .agg #[.int .i64 x, .int .i64 y]] W fun e w' => e = .returned (.tuple #[.agg #[.int .i64 (ml a l d r x), .int .i64 (mh a h d r y)], .bool true, .int .i64 0]) ∧ Grown W w') := Lib.hid (fun W => refMeet_ok (tl a l d r) (th a h d r) x y W ⟨t_vd hc hr, hv⟩ hm)
  have V2 := Lib.hid (valid_yes r (ml a l d r x - r) (mh a h d r y - r) d · (⟨hr, ho, hc.2.2⟩))
  obtain ⟨⟨u0, u1, u2⟩, _⟩ := m_vd hc hr hm
  have hr' : Rd r := hr
  obtain ⟨r0, r1⟩ := hr'
  clear ho
  clear hc hr hv hm
  generalize ml a l d r x = u at *
  generalize mh a h d r y = v at *
  generalize tl a l d r = p at *
  generalize th a h d r = q at *
  go_enter Try.func18, Try.ntmps18
  go_wp2_with fail
  refine (V.out _).mono ?_
  rintro e w1 ⟨rfl, g1⟩
  obtain ⟨c1, f1, z1⟩ := laid g1
  try simp at z1
  have G1 : Grown w w1 := Grown.trans (by go_grown) g1
  clear g1
  have z1_w0 : w.heap.size < w1.heap.size := by omega
  have z1_w1 : w.heap.size + 1 < w1.heap.size := by omega
  have z1_w2 : w.heap.size + 1 + 1 < w1.heap.size := by omega
  go_wp2_with fail
  refine (Q.out _).mono ?_
  rintro e w2 ⟨rfl, g2⟩
  obtain ⟨c2, f2, z2⟩ := laid g2
  try simp at z2
  have G2 : Grown w w2 := Grown.trans (by go_grown) g2
  clear g2
  have z2_w0 : w.heap.size < w2.heap.size := by omega
  have z2_w1 : w.heap.size + 1 < w2.heap.size := by omega
  have z2_w2 : w.heap.size + 1 + 1 < w2.heap.size := by omega
  go_wp2_with fail
  refine (time_c _ _).mono ?_
  rintro e w' ⟨rfl, rfl⟩
  rw [T.out]
  go_wp2_with fail
  go_region_held3 (fun W => W.cell? ⟨w.heap.size, 0, none⟩ = some (.int .i64 a) ∧ W.cell? ⟨w.heap.size, 1, none⟩ = some (.int .i64 l) ∧ W.cell? ⟨w.heap.size, 2, none⟩ = some (.int .i64 h) ∧ W.cell? ⟨w.heap.size, 3, none⟩ = some (.int .i64 d) ∧ W.cell? ⟨w.heap.size + 1, 0, none⟩ = some (.int .i64 x) ∧ W.cell? ⟨w.heap.size + 1, 1, none⟩ = some (.int .i64 y)) (simp [go_sem, *])
    (first | (go_at_call 27; refine (O.out _).mono ?_; rintro e w4 ⟨rfl, g4⟩; obtain ⟨c4, f4, z4⟩ := laid g4; (try simp at z4); (try simp only [World.size_drew, World.cell?_drew] at c4); have G4 : Grown w w4 := Grown.trans (by go_grown) g4; clear g4; have z4_0 : w.heap.size < w4.heap.size := (by omega); have z4_1 : w.heap.size + 1 < w4.heap.size := (by omega); have z4_2 : w.heap.size + 1 + 1 < w4.heap.size := (by omega); (try (have z4_3 : w2.heap.size < w4.heap.size := (by omega)))) | (go_at_call 36; refine (M.out _).mono ?_; rintro e w5 ⟨rfl, g5⟩; obtain ⟨c5, f5, z5⟩ := laid g5; (try simp at z5); (try simp only [World.size_drew, World.cell?_drew] at c5); have G5 : Grown w w5 := Grown.trans (by go_grown) g5; clear g5; have z5_0 : w.heap.size < w5.heap.size := (by omega); have z5_1 : w.heap.size + 1 < w5.heap.size := (by omega); have z5_2 : w.heap.size + 1 + 1 < w5.heap.size := (by omega); (try (have z5_3 : w2.heap.size < w5.heap.size := (by omega))); (try (have z5_4 : w4.heap.size < w5.heap.size := (by omega)))))
  all_goals go_wp2_with fail
  all_goals refine (V2.out _).mono ?_
  all_goals rintro e w6 ⟨rfl, g6⟩
  all_goals obtain ⟨c6, f6, z6⟩ := laid g6
  all_goals try simp at z6
  all_goals have G6 : Grown w w6 := Grown.trans (by go_grown) g6
  all_goals clear g6
  all_goals have z6_0 : w.heap.size < w6.heap.size := by omega
  all_goals have z6_1 : w.heap.size + 1 < w6.heap.size := by omega
  all_goals have z6_2 : w.heap.size + 1 + 1 < w6.heap.size := by omega
  all_goals have z6_3 : w5.heap.size < w6.heap.size := by omega
  all_goals try (have z6_4 : w5.heap.size + 1 < w6.heap.size := by omega)
  all_goals go_wp2_with fail
  all_goals exact bodyPost_ret (v := .tuple #[.agg #[.int .i64 r, .int .i64 (u - r), .int .i64 (v - r), .int .i64 d], .bool true, .int .i64 0]) (by simp [results, Try.results18, go_sem, *]) rfl ⟨rfl, by go_grown⟩
end R
end Ck
end Go.Proofs.Ytndabfpinkakbaa
