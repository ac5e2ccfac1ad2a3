/-
  Package span as it landed: Times.
-/
import Derived.Test.YtpendmjfmhjibaaSpanCodeD
import Derived.Test.YtpendmjfmhjibaaSpanRefB
import Derived.Laws.EntriesVeiled
namespace Go.Proofs.Ytpendmjfmhjibaa
open Go.RowKit
namespace Sn

theorem spDown_any (n : Int) (w : World) (h : -1000000000000000000 ≤ n ∧ n ≤ 1000000000000000000) : Calls Try.prog 38 #[.int .i64 n] w fun e w' => e = .returned (.int .i64 (d1000 n)) ∧ w = w' := by
  obtain ⟨h0, h1⟩ := h
  by_cases p : 0 ≤ n
  · have H : Hid (d1000 n = n / 1000) := Lib.hid rfl
    have q : 0 ≤ n % 1000 := by omega
    go_enter Try.func38, Try.ntmps38
    go_wp2_with fail
    go_ret
    exact ⟨by rw [H.out]; first | rfl | (simp; omega), rfl⟩

  · obtain ⟨e1, e2⟩ := cut1000 (show n < 0 by omega)
    have b1 : -1000000000000000000 ≤ n.tdiv 1000 := by omega
    have b2 : n.tdiv 1000 ≤ 0 := by omega
    by_cases q : n % 1000 = 0
    · have H : Hid (d1000 n = n.tdiv 1000) := Lib.hid (by unfold d1000; omega)
      have t : 0 ≤ n.tmod 1000 := by omega
      have p' : n < 0 := by omega
      clear e1 e2 p q
      go_enter Try.func38, Try.ntmps38
      go_wp2_with fail
      go_ret
      exact ⟨by rw [H.out]; first | rfl | (simp; omega), rfl⟩

    · have H : Hid (d1000 n = n.tdiv 1000 - 1) := Lib.hid (by unfold d1000; omega)
      have t : n.tmod 1000 < 0 := by omega
      have p' : n < 0 := by omega
      clear e1 e2 p q
      go_enter Try.func38, Try.ntmps38
      go_wp2_with fail
      go_ret
      exact ⟨by rw [H.out]; first | rfl | (simp; omega), rfl⟩

theorem spUp_any (n : Int) (p : Addr) (w : World) (h : -1000000000000000000 ≤ n ∧ n ≤ 1000000000000000000) (hc : w.cell? p = some (.func (.func 38) #[] #[])) : Calls Try.prog 39 #[.int .i64 n, .pointer (some p)] w fun e w' => e = .returned (.int .i64 (u1000 n)) ∧ w = w' := by
  have H : Hid (-1000000000000000000 ≤ -n ∧ -n ≤ 1000000000000000000) := Lib.hid (by omega)
  obtain ⟨h0, h1⟩ := h
  have b1 : -1000000000000000000 ≤ d1000 (-n) := by unfold d1000; omega
  have b2 : d1000 (-n) ≤ 1000000000000000000 := by unfold d1000; omega
  go_enter Try.func39, Try.ntmps39
  go_wp2_with fail
  refine (spDown_any _ _ H.out).mono ?_
  rintro e w' ⟨rfl, rfl⟩
  go_wp2_with fail
  go_ret
  exact ⟨rfl, rfl⟩


theorem spTimes_bad (a b c d : Int) (w : World) (h : ¬ (Vd a b ∧ Pa c d)) : Calls Try.prog 23 #[.agg #[.int .i64 a, .int .i64 b], .agg #[.int .i64 c, .int .i64 d]] w fun e w' => e = .returned (.tuple #[.agg #[.int .i64 0, .int .i64 0], .int .i64 1]) ∧ Grown w w' := by
  by_cases v : Vd a b ∧ Vd c d
  · have H := Lib.hid v
    have WH := Lib.hid (wn_no c d 0 1000000 · (fun t => h ⟨v.1, v.2, (wn_iff.1 t).1, (wn_iff.1 t).2.2.2.2⟩))
    clear h v
    go_enter Try.func23, Try.ntmps23
    go_wp2_with fail
    refine (av_yes _ _ _ _ _ _ _ H.out ⟨by simp, ⟨by simp [go_sem], by simp [go_sem]⟩, ⟨by simp [go_sem], by simp [go_sem]⟩⟩).mono ?_
    rintro e w1 ⟨rfl, g1⟩
    obtain ⟨c1, f1, z1⟩ := laid g1
    try simp at z1
    have G1 : Grown w w1 := Grown.trans (by go_grown) g1
    clear g1
    have z1_0 : w.heap.size < w1.heap.size := by omega
    have z1_1 : w.heap.size + 1 < w1.heap.size := by omega
    have z1_2 : w.heap.size + 1 + 1 < w1.heap.size := by omega
    go_wp2_with fail
    refine (WH.out _).mono ?_
    rintro e w2 ⟨rfl, g2⟩
    obtain ⟨c2, f2, z2⟩ := laid g2
    try simp at z2
    have G2 : Grown w w2 := Grown.trans (by go_grown) g2
    clear g2
    have z2_0 : w.heap.size < w2.heap.size := by omega
    have z2_1 : w.heap.size + 1 < w2.heap.size := by omega
    have z2_2 : w.heap.size + 1 + 1 < w2.heap.size := by omega
    go_wp2_with fail
    refine bodyPost_ret (v := .tuple #[.agg #[.int .i64 0, .int .i64 0], .int .i64 1]) (by simp [results, Try.results23, go_sem, *]) rfl ⟨rfl, by go_grown⟩

  · have H := Lib.hid v
    clear h v
    go_enter Try.func23, Try.ntmps23
    go_wp2_with fail
    refine (av_no _ _ _ _ _ _ _ H.out ⟨by simp, ⟨by simp [go_sem], by simp [go_sem]⟩, ⟨by simp [go_sem], by simp [go_sem]⟩⟩).mono ?_
    rintro e w1 ⟨rfl, g1⟩
    obtain ⟨c1, f1, z1⟩ := laid g1
    try simp at z1
    have G1 : Grown w w1 := Grown.trans (by go_grown) g1
    clear g1
    have z1_0 : w.heap.size < w1.heap.size := by omega
    have z1_1 : w.heap.size + 1 < w1.heap.size := by omega
    have z1_2 : w.heap.size + 1 + 1 < w1.heap.size := by omega
    go_wp2_with fail
    refine bodyPost_ret (v := .tuple #[.agg #[.int .i64 0, .int .i64 0], .int .i64 1]) (by simp [results, Try.results23, go_sem, *]) rfl ⟨rfl, by go_grown⟩


set_option maxHeartbeats 1000000 in
theorem spTimes_ok (a b c d : Int) (w : World) (h : Vd a b ∧ Pa c d) (k : Vd (d1000 (mn (a * c) (a * d))) (u1000 (mx (b * c) (b * d)))) : Calls Try.prog 23 #[.agg #[.int .i64 a, .int .i64 b], .agg #[.int .i64 c, .int .i64 d]] w fun e w' => e = .returned (.tuple #[.agg #[.int .i64 (d1000 (mn (a * c) (a * d))), .int .i64 (u1000 (mx (b * c) (b * d)))], .int .i64 0]) ∧ Grown w w' := by
  have H : Hid (Vd a b ∧ Vd c d) := Lib.hid ⟨h.1, h.2.1⟩
  have WH := Lib.hid (wn_yes c d 0 1000000 · (wn_iff.2 ⟨h.2.2.1, by have := h.2.2.1; have := h.2.1.2.1; omega, by omega, by have := h.2.2.2; have := h.2.1.2.1; omega, h.2.2.2⟩))
  obtain ⟨⟨a0, ab, b0⟩, ⟨_, c0, d0⟩⟩ := h
  have cd : c ≤ d := H.out.2.2.1
  obtain ⟨p0, p1⟩ := mul_bd (n := a) (a := c) ⟨by omega, by omega⟩ ⟨by omega, by omega⟩
  obtain ⟨p2, p3⟩ := mul_bd (n := a) (a := d) ⟨by omega, by omega⟩ ⟨by omega, by omega⟩
  obtain ⟨p4, p5⟩ := mul_bd (n := b) (a := c) ⟨by omega, by omega⟩ ⟨by omega, by omega⟩
  obtain ⟨p6, p7⟩ := mul_bd (n := b) (a := d) ⟨by omega, by omega⟩ ⟨by omega, by omega⟩
  have m1 : a * c ≤ b * c := Int.mul_le_mul_of_nonneg_right ab c0
  have m2 : a * d ≤ b * d := Int.mul_le_mul_of_nonneg_right ab (by omega)
  have EX : Hid (∀ (bb cc : Nat) (w : World), bb < w.heap.size → w.cell? ⟨bb, 0, none⟩ = some (.int .i64 (a * d)) → w.cell? ⟨bb, 1, none⟩ = some (.int .i64 (b * c)) → w.cell? ⟨bb, 2, none⟩ = some (.int .i64 (b * d)) → Calls Try.prog 33 #[.int .i64 (a * c), .slice (some ⟨bb, 0, none⟩) 3 cc] w fun e w' => e = .returned (.agg #[.int .i64 (mn (a * c) (a * d)), .int .i64 (mx (b * c) (b * d))]) ∧ Grown w w') := Lib.hid (fun bb cc w hb q0 q1 q2 => by
    have t := ends3 (a * c) (a * d) (b * c) (b * d) bb cc w hb q0 q1 q2
    have e1 : mn (mn (mn (a * c) (a * d)) (b * c)) (b * d) = mn (a * c) (a * d) := by simp only [mn_min]; omega
    have e2 : mx (mx (mx (a * c) (a * d)) (b * c)) (b * d) = mx (b * c) (b * d) := by simp only [mx_max]; omega
    rwa [e1, e2] at t)
  have U : Hid (-1000000000000000000 ≤ mn (a * c) (a * d) ∧ mn (a * c) (a * d) ≤ 1000000000000000000) := Lib.hid (by rw [mn_min]; omega)
  have V : Hid (-1000000000000000000 ≤ mx (b * c) (b * d) ∧ mx (b * c) (b * d) ≤ 1000000000000000000) := Lib.hid (by rw [mx_max]; omega)
  clear m1 m2 cd
  have K := Lib.hid k
  clear k
  obtain ⟨u, hu⟩ : ∃ u, u = mn (a * c) (a * d) := ⟨_, rfl⟩
  obtain ⟨v, hv⟩ : ∃ v, v = mx (b * c) (b * d) := ⟨_, rfl⟩
  rw [← hu, ← hv] at K EX ⊢
  rw [← hu] at U
  rw [← hv] at V
  clear hu hv
  go_enter Try.func23, Try.ntmps23
  go_wp2_with fail
  refine (av_yes _ _ _ _ _ _ _ H.out ⟨by simp, ⟨by simp [go_sem], by simp [go_sem]⟩, ⟨by simp [go_sem], by simp [go_sem]⟩⟩).mono ?_
  rintro e w1 ⟨rfl, g1⟩
  obtain ⟨c1, f1, z1⟩ := laid g1
  try simp at z1
  have G1 : Grown w w1 := Grown.trans (by go_grown) g1
  clear g1
  have z1_0 : w.heap.size < w1.heap.size := by omega
  have z1_1 : w.heap.size + 1 < w1.heap.size := by omega
  have z1_2 : w.heap.size + 1 + 1 < w1.heap.size := by omega
  go_wp2_with fail
  refine (WH.out _).mono ?_
  rintro e w2 ⟨rfl, g2⟩
  obtain ⟨c2, f2, z2⟩ := laid g2
  try simp at z2
  have G2 : Grown w w2 := Grown.trans (by go_grown) g2
  clear g2
  have z2_0 : w.heap.size < w2.heap.size := by omega
  have z2_1 : w.heap.size + 1 < w2.heap.size := by omega
  have z2_2 : w.heap.size + 1 + 1 < w2.heap.size := by omega
  go_wp2_with fail
  refine (EX.out _ _ _ (by simp) (by simp [go_sem]) (by simp [go_sem]) (by simp [go_sem])).mono ?_
  rintro e w3 ⟨rfl, g3⟩
  obtain ⟨c3, f3, z3⟩ := laid g3
  try simp at z3
  have G3 : Grown w w3 := Grown.trans (by go_grown) g3
  clear g3
  have z3_0 : w.heap.size < w3.heap.size := by omega
  have z3_1 : w.heap.size + 1 < w3.heap.size := by omega
  have z3_2 : w.heap.size + 1 + 1 < w3.heap.size := by omega
  have z3_3 : w2.heap.size < w3.heap.size := by omega
  go_wp2_with fail
  go_region_held3 (fun w' => w'.cell? ⟨w2.heap.size, 0, none⟩ = some (.func (.func 38) #[] #[]) ∧ w'.cell? ⟨w3.heap.size, 0, none⟩ = some (.int .i64 u) ∧ w'.cell? ⟨w3.heap.size, 1, none⟩ = some (.int .i64 v)) (simp [go_sem, *])
    (first | (go_at_call 38; refine (spDown_any _ _ U.out).mono ?_; rintro e w' ⟨rfl, rfl⟩) | (go_at_call 39; refine (spUp_any _ _ _ V.out (by simp [go_sem, *])).mono ?_; rintro e w' ⟨rfl, rfl⟩) | (go_at_call 35; refine (spResult_yes _ _ _ K.out).mono ?_; rintro e w4 ⟨rfl, g4⟩; obtain ⟨c4, f4, z4⟩ := laid g4; (try simp at z4); (try simp only [World.size_drew, World.cell?_drew] at c4); have G4 : Grown w w4 := Grown.trans (by go_grown) g4; clear g4; have z4_0 : w.heap.size < w4.heap.size := (by omega); have z4_1 : w.heap.size + 1 < w4.heap.size := (by omega); have z4_2 : w.heap.size + 1 + 1 < w4.heap.size := (by omega)))
  go_wp2_with fail
  refine bodyPost_ret (v := .tuple #[.agg #[.int .i64 (d1000 u), .int .i64 (u1000 v)], .int .i64 0]) (by simp [results, Try.results23, go_sem, *]) rfl ⟨rfl, by go_grown⟩


set_option maxHeartbeats 1000000 in
theorem spTimes_range (a b c d : Int) (w : World) (h : Vd a b ∧ Pa c d) (k : ¬ Vd (d1000 (mn (a * c) (a * d))) (u1000 (mx (b * c) (b * d)))) : Calls Try.prog 23 #[.agg #[.int .i64 a, .int .i64 b], .agg #[.int .i64 c, .int .i64 d]] w fun e w' => e = .returned (.tuple #[.agg #[.int .i64 0, .int .i64 0], .int .i64 3]) ∧ Grown w w' := by
  have H : Hid (Vd a b ∧ Vd c d) := Lib.hid ⟨h.1, h.2.1⟩
  have WH := Lib.hid (wn_yes c d 0 1000000 · (wn_iff.2 ⟨h.2.2.1, by have := h.2.2.1; have := h.2.1.2.1; omega, by omega, by have := h.2.2.2; have := h.2.1.2.1; omega, h.2.2.2⟩))
  obtain ⟨⟨a0, ab, b0⟩, ⟨_, c0, d0⟩⟩ := h
  have cd : c ≤ d := H.out.2.2.1
  obtain ⟨p0, p1⟩ := mul_bd (n := a) (a := c) ⟨by omega, by omega⟩ ⟨by omega, by omega⟩
  obtain ⟨p2, p3⟩ := mul_bd (n := a) (a := d) ⟨by omega, by omega⟩ ⟨by omega, by omega⟩
  obtain ⟨p4, p5⟩ := mul_bd (n := b) (a := c) ⟨by omega, by omega⟩ ⟨by omega, by omega⟩
  obtain ⟨p6, p7⟩ := mul_bd (n := b) (a := d) ⟨by omega, by omega⟩ ⟨by omega, by omega⟩
  have m1 : a * c ≤ b * c := Int.mul_le_mul_of_nonneg_right ab c0
  have m2 : a * d ≤ b * d := Int.mul_le_mul_of_nonneg_right ab (by omega)
  have EX : Hid (∀ (bb cc : Nat) (w : World), bb < w.heap.size → w.cell? ⟨bb, 0, none⟩ = some (.int .i64 (a * d)) → w.cell? ⟨bb, 1, none⟩ = some (.int .i64 (b * c)) → w.cell? ⟨bb, 2, none⟩ = some (.int .i64 (b * d)) → Calls Try.prog 33 #[.int .i64 (a * c), .slice (some ⟨bb, 0, none⟩) 3 cc] w fun e w' => e = .returned (.agg #[.int .i64 (mn (a * c) (a * d)), .int .i64 (mx (b * c) (b * d))]) ∧ Grown w w') := Lib.hid (fun bb cc w hb q0 q1 q2 => by
    have t := ends3 (a * c) (a * d) (b * c) (b * d) bb cc w hb q0 q1 q2
    have e1 : mn (mn (mn (a * c) (a * d)) (b * c)) (b * d) = mn (a * c) (a * d) := by simp only [mn_min]; omega
    have e2 : mx (mx (mx (a * c) (a * d)) (b * c)) (b * d) = mx (b * c) (b * d) := by simp only [mx_max]; omega
    rwa [e1, e2] at t)
  have U : Hid (-1000000000000000000 ≤ mn (a * c) (a * d) ∧ mn (a * c) (a * d) ≤ 1000000000000000000) := Lib.hid (by rw [mn_min]; omega)
  have V : Hid (-1000000000000000000 ≤ mx (b * c) (b * d) ∧ mx (b * c) (b * d) ≤ 1000000000000000000) := Lib.hid (by rw [mx_max]; omega)
  clear m1 m2 cd
  have K := Lib.hid k
  clear k
  obtain ⟨u, hu⟩ : ∃ u, u = mn (a * c) (a * d) := ⟨_, rfl⟩
  obtain ⟨v, hv⟩ : ∃ v, v = mx (b * c) (b * d) := ⟨_, rfl⟩
  rw [← hu, ← hv] at K EX
  rw [← hu] at U
  rw [← hv] at V
  clear hu hv
  go_enter Try.func23, Try.ntmps23
  go_wp2_with fail
  refine (av_yes _ _ _ _ _ _ _ H.out ⟨by simp, ⟨by simp [go_sem], by simp [go_sem]⟩, ⟨by simp [go_sem], by simp [go_sem]⟩⟩).mono ?_
  rintro e w1 ⟨rfl, g1⟩
  obtain ⟨c1, f1, z1⟩ := laid g1
  try simp at z1
  have G1 : Grown w w1 := Grown.trans (by go_grown) g1
  clear g1
  have z1_0 : w.heap.size < w1.heap.size := by omega
  have z1_1 : w.heap.size + 1 < w1.heap.size := by omega
  have z1_2 : w.heap.size + 1 + 1 < w1.heap.size := by omega
  go_wp2_with fail
  refine (WH.out _).mono ?_
  rintro e w2 ⟨rfl, g2⟩
  obtain ⟨c2, f2, z2⟩ := laid g2
  try simp at z2
  have G2 : Grown w w2 := Grown.trans (by go_grown) g2
  clear g2
  have z2_0 : w.heap.size < w2.heap.size := by omega
  have z2_1 : w.heap.size + 1 < w2.heap.size := by omega
  have z2_2 : w.heap.size + 1 + 1 < w2.heap.size := by omega
  go_wp2_with fail
  refine (EX.out _ _ _ (by simp) (by simp [go_sem]) (by simp [go_sem]) (by simp [go_sem])).mono ?_
  rintro e w3 ⟨rfl, g3⟩
  obtain ⟨c3, f3, z3⟩ := laid g3
  try simp at z3
  have G3 : Grown w w3 := Grown.trans (by go_grown) g3
  clear g3
  have z3_0 : w.heap.size < w3.heap.size := by omega
  have z3_1 : w.heap.size + 1 < w3.heap.size := by omega
  have z3_2 : w.heap.size + 1 + 1 < w3.heap.size := by omega
  have z3_3 : w2.heap.size < w3.heap.size := by omega
  go_wp2_with fail
  go_region_held3 (fun w' => w'.cell? ⟨w2.heap.size, 0, none⟩ = some (.func (.func 38) #[] #[]) ∧ w'.cell? ⟨w3.heap.size, 0, none⟩ = some (.int .i64 u) ∧ w'.cell? ⟨w3.heap.size, 1, none⟩ = some (.int .i64 v)) (simp [go_sem, *])
    (first | (go_at_call 38; refine (spDown_any _ _ U.out).mono ?_; rintro e w' ⟨rfl, rfl⟩) | (go_at_call 39; refine (spUp_any _ _ _ V.out (by simp [go_sem, *])).mono ?_; rintro e w' ⟨rfl, rfl⟩) | (go_at_call 35; refine (spResult_no _ _ _ K.out).mono ?_; rintro e w4 ⟨rfl, g4⟩; obtain ⟨c4, f4, z4⟩ := laid g4; (try simp at z4); (try simp only [World.size_drew, World.cell?_drew] at c4); have G4 : Grown w w4 := Grown.trans (by go_grown) g4; clear g4; have z4_0 : w.heap.size < w4.heap.size := (by omega); have z4_1 : w.heap.size + 1 < w4.heap.size := (by omega); have z4_2 : w.heap.size + 1 + 1 < w4.heap.size := (by omega)))
  go_wp2_with fail
  refine bodyPost_ret (v := .tuple #[.agg #[.int .i64 0, .int .i64 0], .int .i64 3]) (by simp [results, Try.results23, go_sem, *]) rfl ⟨rfl, by go_grown⟩

end Sn
end Go.Proofs.Ytpendmjfmhjibaa
