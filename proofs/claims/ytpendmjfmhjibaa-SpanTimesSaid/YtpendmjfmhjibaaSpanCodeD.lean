/-
  Package span as it landed: Has, Add, Sub, Join, Meet.
-/
import Derived.Test.YtpendmjfmhjibaaSpanCodeC
namespace Go.Proofs.Ytpendmjfmhjibaa
open Go.RowKit
namespace Sn

theorem spHas_ok (lo hi n : Int) (w : World) (h : Vd lo hi) : Calls Try.prog 11 #[.agg #[.int .i64 lo, .int .i64 hi], .int .i64 n] w fun e w' => e = .returned (.tuple #[.bool (hs lo hi n), .int .i64 0]) ∧ Grown w w' := by
  have H := Lib.hid h
  by_cases k : lo ≤ n ∧ n ≤ hi
  · have HH : Hid (hs lo hi n = true) := Lib.hid (by unfold hs; exact decide_eq_true k)
    have WH := Lib.hid (wn_yes n n lo hi · (wn_iff.2 ⟨k.1, k.1, h.2.1, k.2, k.2⟩))
    clear h k
    go_enter Try.func11, Try.ntmps11
    go_wp2_with fail
    refine (spValid_yes _ _ _ H.out).mono ?_
    rintro e w1 ⟨rfl, g1⟩
    obtain ⟨c1, f1, z1⟩ := laid g1
    try simp at z1
    have G1 : Grown w w1 := Grown.trans (by go_grown) g1
    clear g1
    have z1_0 : w.heap.size < w1.heap.size := by omega
    go_wp2_with fail
    go_region_held3 (fun w' => w'.cell? ⟨w.heap.size, 0, none⟩ = some (.int .i64 lo) ∧ w'.cell? ⟨w.heap.size, 1, none⟩ = some (.int .i64 hi)) (simp [go_sem, *])
      (first | (go_at_call 33; refine (ends_none _ _).mono ?_; rintro e w2 ⟨rfl, g2⟩; obtain ⟨c2, f2, z2⟩ := laid g2; (try simp at z2); (try simp only [World.size_drew, World.cell?_drew] at c2); have G2 : Grown w w2 := Grown.trans (by go_grown) g2; clear g2; have z2_0 : w.heap.size < w2.heap.size := (by omega)) | (go_at_call 32; refine (WH.out _).mono ?_; rintro e w3 ⟨rfl, g3⟩; obtain ⟨c3, f3, z3⟩ := laid g3; (try simp at z3); (try simp only [World.size_drew, World.cell?_drew] at c3); have G3 : Grown w w3 := Grown.trans (by go_grown) g3; clear g3; have z3_0 : w.heap.size < w3.heap.size := (by omega)))
    go_wp2_with fail
    go_ret2
    exact ⟨by rw [HH.out]; rfl, by go_grown⟩

  · have HH : Hid (hs lo hi n = false) := Lib.hid (by unfold hs; exact decide_eq_false k)
    have WH := Lib.hid (wn_no n n lo hi · (fun t => k ⟨(wn_iff.1 t).1, (wn_iff.1 t).2.2.2.1⟩))
    clear h k
    go_enter Try.func11, Try.ntmps11
    go_wp2_with fail
    refine (spValid_yes _ _ _ H.out).mono ?_
    rintro e w1 ⟨rfl, g1⟩
    obtain ⟨c1, f1, z1⟩ := laid g1
    try simp at z1
    have G1 : Grown w w1 := Grown.trans (by go_grown) g1
    clear g1
    have z1_0 : w.heap.size < w1.heap.size := by omega
    go_wp2_with fail
    go_region_held3 (fun w' => w'.cell? ⟨w.heap.size, 0, none⟩ = some (.int .i64 lo) ∧ w'.cell? ⟨w.heap.size, 1, none⟩ = some (.int .i64 hi)) (simp [go_sem, *])
      (first | (go_at_call 33; refine (ends_none _ _).mono ?_; rintro e w2 ⟨rfl, g2⟩; obtain ⟨c2, f2, z2⟩ := laid g2; (try simp at z2); (try simp only [World.size_drew, World.cell?_drew] at c2); have G2 : Grown w w2 := Grown.trans (by go_grown) g2; clear g2; have z2_0 : w.heap.size < w2.heap.size := (by omega)) | (go_at_call 32; refine (WH.out _).mono ?_; rintro e w3 ⟨rfl, g3⟩; obtain ⟨c3, f3, z3⟩ := laid g3; (try simp at z3); (try simp only [World.size_drew, World.cell?_drew] at c3); have G3 : Grown w w3 := Grown.trans (by go_grown) g3; clear g3; have z3_0 : w.heap.size < w3.heap.size := (by omega)))
    go_wp2_with fail
    go_ret2
    exact ⟨by rw [HH.out]; rfl, by go_grown⟩

theorem spHas_bad (lo hi n : Int) (w : World) (h : ¬ Vd lo hi) : Calls Try.prog 11 #[.agg #[.int .i64 lo, .int .i64 hi], .int .i64 n] w fun e w' => e = .returned (.tuple #[.bool false, .int .i64 1]) ∧ Grown w w' := by
  have H := Lib.hid h
  clear h
  go_enter Try.func11, Try.ntmps11
  go_wp2_with fail
  refine (spValid_no _ _ _ H.out).mono ?_
  rintro e w1 ⟨rfl, g1⟩
  obtain ⟨c1, f1, z1⟩ := laid g1
  try simp at z1
  have G1 : Grown w w1 := Grown.trans (by go_grown) g1
  clear g1
  have z1_0 : w.heap.size < w1.heap.size := by omega
  go_wp2_with fail
  go_ret2
  exact ⟨by first | rfl | (simp; omega), by go_grown⟩


theorem spAdd_bad (a b c d : Int) (w : World) (h : ¬ (Vd a b ∧ Vd c d)) : Calls Try.prog 15 #[.agg #[.int .i64 a, .int .i64 b], .agg #[.int .i64 c, .int .i64 d]] w fun e w' => e = .returned (.tuple #[.agg #[.int .i64 0, .int .i64 0], .int .i64 1]) ∧ Grown w w' := by
  have H := Lib.hid h
  clear h
  go_enter Try.func15, Try.ntmps15
  go_wp2_with fail
  refine (av_no _ _ _ _ _ _ _ H.out ⟨by simp, ⟨by simp [go_sem], by simp [go_sem]⟩, ⟨by simp [go_sem], by simp [go_sem]⟩⟩).mono ?_
  rintro e w1 ⟨rfl, g1⟩
  obtain ⟨c1, f1, z1⟩ := laid g1
  try simp at z1
  have G1 : Grown w w1 := Grown.trans (by go_grown) g1
  clear g1
  have z1_0 : w.heap.size < w1.heap.size := by omega
  have z1_1 : w.heap.size + 1 < w1.heap.size := by omega
  have z1_2 : w.heap.size + 1 + 1 < w1.heap.size := by omega
  go_wp2_with fail
  refine bodyPost_ret (v := .tuple #[.agg #[.int .i64 0, .int .i64 0], .int .i64 1]) (by simp [results, Try.results15, go_sem, *]) rfl ⟨rfl, by go_grown⟩

theorem spAdd_ok (a b c d : Int) (w : World) (h : Vd a b ∧ Vd c d) (k : Vd (a + c) (b + d)) : Calls Try.prog 15 #[.agg #[.int .i64 a, .int .i64 b], .agg #[.int .i64 c, .int .i64 d]] w fun e w' => e = .returned (.tuple #[.agg #[.int .i64 (a + c), .int .i64 (b + d)], .int .i64 0]) ∧ Grown w w' := by
  have H := Lib.hid h
  have K := Lib.hid k
  have EX : Hid (∀ (bb cc : Nat) (w : World), bb < w.heap.size → w.cell? ⟨bb, 0, none⟩ = some (.int .i64 (b + d)) → Calls Try.prog 33 #[.int .i64 (a + c), .slice (some ⟨bb, 0, none⟩) 1 cc] w fun e w' => e = .returned (.agg #[.int .i64 (a + c), .int .i64 (b + d)]) ∧ Grown w w') := Lib.hid (fun bb cc w hb q => by
    have := ends1 (a + c) (b + d) bb cc w hb q
    have p1 := h.1.2.1
    have p2 := h.2.2.1
    rwa [mn_min, mx_max, Int.min_eq_left (by omega), Int.max_eq_right (by omega)] at this)
  obtain ⟨⟨_, _, _⟩, ⟨_, _, _⟩⟩ := h
  clear k
  go_enter Try.func15, Try.ntmps15
  go_wp2_with fail
  refine (av_yes _ _ _ _ _ _ _ H.out ⟨by simp, ⟨by simp [go_sem], by simp [go_sem]⟩, ⟨by simp [go_sem], by simp [go_sem]⟩⟩).mono ?_
  rintro e w1 ⟨rfl, g1⟩
  obtain ⟨c1, f1, z1⟩ := laid g1
  try simp at z1
  have G1 : Grown w w1 := Grown.trans (by go_grown) g1
  clear g1
  have z1_0 : w.heap.size < w1.heap.size := by omega
  have z1_1 : w.heap.size + 1 < w1.heap.size := by omega
  have z1_2 : w.heap.size + 1 + 1 < w1.heap.size := by omega
  go_wp2_with fail
  refine (EX.out _ _ _ (by simp) (by simp [go_sem])).mono ?_
  rintro e w2 ⟨rfl, g2⟩
  obtain ⟨c2, f2, z2⟩ := laid g2
  try simp at z2
  have G2 : Grown w w2 := Grown.trans (by go_grown) g2
  clear g2
  have z2_0 : w.heap.size < w2.heap.size := by omega
  have z2_1 : w.heap.size + 1 < w2.heap.size := by omega
  have z2_2 : w.heap.size + 1 + 1 < w2.heap.size := by omega
  go_wp2_with fail
  refine (spResult_yes _ _ _ K.out).mono ?_
  rintro e w3 ⟨rfl, g3⟩
  obtain ⟨c3, f3, z3⟩ := laid g3
  try simp at z3
  have G3 : Grown w w3 := Grown.trans (by go_grown) g3
  clear g3
  have z3_0 : w.heap.size < w3.heap.size := by omega
  have z3_1 : w.heap.size + 1 < w3.heap.size := by omega
  have z3_2 : w.heap.size + 1 + 1 < w3.heap.size := by omega
  go_wp2_with fail
  refine bodyPost_ret (v := .tuple #[.agg #[.int .i64 (a + c), .int .i64 (b + d)], .int .i64 0]) (by simp [results, Try.results15, go_sem, *]) rfl ⟨rfl, by go_grown⟩

theorem spAdd_range (a b c d : Int) (w : World) (h : Vd a b ∧ Vd c d) (k : ¬ Vd (a + c) (b + d)) : Calls Try.prog 15 #[.agg #[.int .i64 a, .int .i64 b], .agg #[.int .i64 c, .int .i64 d]] w fun e w' => e = .returned (.tuple #[.agg #[.int .i64 0, .int .i64 0], .int .i64 3]) ∧ Grown w w' := by
  have H := Lib.hid h
  have K := Lib.hid k
  have EX : Hid (∀ (bb cc : Nat) (w : World), bb < w.heap.size → w.cell? ⟨bb, 0, none⟩ = some (.int .i64 (b + d)) → Calls Try.prog 33 #[.int .i64 (a + c), .slice (some ⟨bb, 0, none⟩) 1 cc] w fun e w' => e = .returned (.agg #[.int .i64 (a + c), .int .i64 (b + d)]) ∧ Grown w w') := Lib.hid (fun bb cc w hb q => by
    have := ends1 (a + c) (b + d) bb cc w hb q
    have p1 := h.1.2.1
    have p2 := h.2.2.1
    rwa [mn_min, mx_max, Int.min_eq_left (by omega), Int.max_eq_right (by omega)] at this)
  obtain ⟨⟨_, _, _⟩, ⟨_, _, _⟩⟩ := h
  clear k
  go_enter Try.func15, Try.ntmps15
  go_wp2_with fail
  refine (av_yes _ _ _ _ _ _ _ H.out ⟨by simp, ⟨by simp [go_sem], by simp [go_sem]⟩, ⟨by simp [go_sem], by simp [go_sem]⟩⟩).mono ?_
  rintro e w1 ⟨rfl, g1⟩
  obtain ⟨c1, f1, z1⟩ := laid g1
  try simp at z1
  have G1 : Grown w w1 := Grown.trans (by go_grown) g1
  clear g1
  have z1_0 : w.heap.size < w1.heap.size := by omega
  have z1_1 : w.heap.size + 1 < w1.heap.size := by omega
  have z1_2 : w.heap.size + 1 + 1 < w1.heap.size := by omega
  go_wp2_with fail
  refine (EX.out _ _ _ (by simp) (by simp [go_sem])).mono ?_
  rintro e w2 ⟨rfl, g2⟩
  obtain ⟨c2, f2, z2⟩ := laid g2
  try simp at z2
  have G2 : Grown w w2 := Grown.trans (by go_grown) g2
  clear g2
  have z2_0 : w.heap.size < w2.heap.size := by omega
  have z2_1 : w.heap.size + 1 < w2.heap.size := by omega
  have z2_2 : w.heap.size + 1 + 1 < w2.heap.size := by omega
  go_wp2_with fail
  refine (spResult_no _ _ _ K.out).mono ?_
  rintro e w3 ⟨rfl, g3⟩
  obtain ⟨c3, f3, z3⟩ := laid g3
  try simp at z3
  have G3 : Grown w w3 := Grown.trans (by go_grown) g3
  clear g3
  have z3_0 : w.heap.size < w3.heap.size := by omega
  have z3_1 : w.heap.size + 1 < w3.heap.size := by omega
  have z3_2 : w.heap.size + 1 + 1 < w3.heap.size := by omega
  go_wp2_with fail
  refine bodyPost_ret (v := .tuple #[.agg #[.int .i64 0, .int .i64 0], .int .i64 3]) (by simp [results, Try.results15, go_sem, *]) rfl ⟨rfl, by go_grown⟩


theorem spSub_bad (a b c d : Int) (w : World) (h : ¬ (Vd a b ∧ Vd c d)) : Calls Try.prog 17 #[.agg #[.int .i64 a, .int .i64 b], .agg #[.int .i64 c, .int .i64 d]] w fun e w' => e = .returned (.tuple #[.agg #[.int .i64 0, .int .i64 0], .int .i64 1]) ∧ Grown w w' := by
  have H := Lib.hid h
  clear h
  go_enter Try.func17, Try.ntmps17
  go_wp2_with fail
  refine (av_no _ _ _ _ _ _ _ H.out ⟨by simp, ⟨by simp [go_sem], by simp [go_sem]⟩, ⟨by simp [go_sem], by simp [go_sem]⟩⟩).mono ?_
  rintro e w1 ⟨rfl, g1⟩
  obtain ⟨c1, f1, z1⟩ := laid g1
  try simp at z1
  have G1 : Grown w w1 := Grown.trans (by go_grown) g1
  clear g1
  have z1_0 : w.heap.size < w1.heap.size := by omega
  have z1_1 : w.heap.size + 1 < w1.heap.size := by omega
  have z1_2 : w.heap.size + 1 + 1 < w1.heap.size := by omega
  go_wp2_with fail
  refine bodyPost_ret (v := .tuple #[.agg #[.int .i64 0, .int .i64 0], .int .i64 1]) (by simp [results, Try.results17, go_sem, *]) rfl ⟨rfl, by go_grown⟩

theorem spSub_ok (a b c d : Int) (w : World) (h : Vd a b ∧ Vd c d) (k : Vd (a - d) (b - c)) : Calls Try.prog 17 #[.agg #[.int .i64 a, .int .i64 b], .agg #[.int .i64 c, .int .i64 d]] w fun e w' => e = .returned (.tuple #[.agg #[.int .i64 (a - d), .int .i64 (b - c)], .int .i64 0]) ∧ Grown w w' := by
  have H := Lib.hid h
  have K := Lib.hid k
  have EX : Hid (∀ (bb cc : Nat) (w : World), bb < w.heap.size → w.cell? ⟨bb, 0, none⟩ = some (.int .i64 (b - c)) → Calls Try.prog 33 #[.int .i64 (a - d), .slice (some ⟨bb, 0, none⟩) 1 cc] w fun e w' => e = .returned (.agg #[.int .i64 (a - d), .int .i64 (b - c)]) ∧ Grown w w') := Lib.hid (fun bb cc w hb q => by
    have := ends1 (a - d) (b - c) bb cc w hb q
    have p1 := h.1.2.1
    have p2 := h.2.2.1
    rwa [mn_min, mx_max, Int.min_eq_left (by omega), Int.max_eq_right (by omega)] at this)
  obtain ⟨⟨_, _, _⟩, ⟨_, _, _⟩⟩ := h
  clear k
  go_enter Try.func17, Try.ntmps17
  go_wp2_with fail
  refine (av_yes _ _ _ _ _ _ _ H.out ⟨by simp, ⟨by simp [go_sem], by simp [go_sem]⟩, ⟨by simp [go_sem], by simp [go_sem]⟩⟩).mono ?_
  rintro e w1 ⟨rfl, g1⟩
  obtain ⟨c1, f1, z1⟩ := laid g1
  try simp at z1
  have G1 : Grown w w1 := Grown.trans (by go_grown) g1
  clear g1
  have z1_0 : w.heap.size < w1.heap.size := by omega
  have z1_1 : w.heap.size + 1 < w1.heap.size := by omega
  have z1_2 : w.heap.size + 1 + 1 < w1.heap.size := by omega
  go_wp2_with fail
  refine (EX.out _ _ _ (by simp) (by simp [go_sem])).mono ?_
  rintro e w2 ⟨rfl, g2⟩
  obtain ⟨c2, f2, z2⟩ := laid g2
  try simp at z2
  have G2 : Grown w w2 := Grown.trans (by go_grown) g2
  clear g2
  have z2_0 : w.heap.size < w2.heap.size := by omega
  have z2_1 : w.heap.size + 1 < w2.heap.size := by omega
  have z2_2 : w.heap.size + 1 + 1 < w2.heap.size := by omega
  go_wp2_with fail
  refine (spResult_yes _ _ _ K.out).mono ?_
  rintro e w3 ⟨rfl, g3⟩
  obtain ⟨c3, f3, z3⟩ := laid g3
  try simp at z3
  have G3 : Grown w w3 := Grown.trans (by go_grown) g3
  clear g3
  have z3_0 : w.heap.size < w3.heap.size := by omega
  have z3_1 : w.heap.size + 1 < w3.heap.size := by omega
  have z3_2 : w.heap.size + 1 + 1 < w3.heap.size := by omega
  go_wp2_with fail
  refine bodyPost_ret (v := .tuple #[.agg #[.int .i64 (a - d), .int .i64 (b - c)], .int .i64 0]) (by simp [results, Try.results17, go_sem, *]) rfl ⟨rfl, by go_grown⟩

theorem spSub_range (a b c d : Int) (w : World) (h : Vd a b ∧ Vd c d) (k : ¬ Vd (a - d) (b - c)) : Calls Try.prog 17 #[.agg #[.int .i64 a, .int .i64 b], .agg #[.int .i64 c, .int .i64 d]] w fun e w' => e = .returned (.tuple #[.agg #[.int .i64 0, .int .i64 0], .int .i64 3]) ∧ Grown w w' := by
  have H := Lib.hid h
  have K := Lib.hid k
  have EX : Hid (∀ (bb cc : Nat) (w : World), bb < w.heap.size → w.cell? ⟨bb, 0, none⟩ = some (.int .i64 (b - c)) → Calls Try.prog 33 #[.int .i64 (a - d), .slice (some ⟨bb, 0, none⟩) 1 cc] w fun e w' => e = .returned (.agg #[.int .i64 (a - d), .int .i64 (b - c)]) ∧ Grown w w') := Lib.hid (fun bb cc w hb q => by
    have := ends1 (a - d) (b - c) bb cc w hb q
    have p1 := h.1.2.1
    have p2 := h.2.2.1
    rwa [mn_min, mx_max, Int.min_eq_left (by omega), Int.max_eq_right (by omega)] at this)
  obtain ⟨⟨_, _, _⟩, ⟨_, _, _⟩⟩ := h
  clear k
  go_enter Try.func17, Try.ntmps17
  go_wp2_with fail
  refine (av_yes _ _ _ _ _ _ _ H.out ⟨by simp, ⟨by simp [go_sem], by simp [go_sem]⟩, ⟨by simp [go_sem], by simp [go_sem]⟩⟩).mono ?_
  rintro e w1 ⟨rfl, g1⟩
  obtain ⟨c1, f1, z1⟩ := laid g1
  try simp at z1
  have G1 : Grown w w1 := Grown.trans (by go_grown) g1
  clear g1
  have z1_0 : w.heap.size < w1.heap.size := by omega
  have z1_1 : w.heap.size + 1 < w1.heap.size := by omega
  have z1_2 : w.heap.size + 1 + 1 < w1.heap.size := by omega
  go_wp2_with fail
  refine (EX.out _ _ _ (by simp) (by simp [go_sem])).mono ?_
  rintro e w2 ⟨rfl, g2⟩
  obtain ⟨c2, f2, z2⟩ := laid g2
  try simp at z2
  have G2 : Grown w w2 := Grown.trans (by go_grown) g2
  clear g2
  have z2_0 : w.heap.size < w2.heap.size := by omega
  have z2_1 : w.heap.size + 1 < w2.heap.size := by omega
  have z2_2 : w.heap.size + 1 + 1 < w2.heap.size := by omega
  go_wp2_with fail
  refine (spResult_no _ _ _ K.out).mono ?_
  rintro e w3 ⟨rfl, g3⟩
  obtain ⟨c3, f3, z3⟩ := laid g3
  try simp at z3
  have G3 : Grown w w3 := Grown.trans (by go_grown) g3
  clear g3
  have z3_0 : w.heap.size < w3.heap.size := by omega
  have z3_1 : w.heap.size + 1 < w3.heap.size := by omega
  have z3_2 : w.heap.size + 1 + 1 < w3.heap.size := by omega
  go_wp2_with fail
  refine bodyPost_ret (v := .tuple #[.agg #[.int .i64 0, .int .i64 0], .int .i64 3]) (by simp [results, Try.results17, go_sem, *]) rfl ⟨rfl, by go_grown⟩


theorem spJoin_bad (a b c d : Int) (w : World) (h : ¬ (Vd a b ∧ Vd c d)) : Calls Try.prog 21 #[.agg #[.int .i64 a, .int .i64 b], .agg #[.int .i64 c, .int .i64 d]] w fun e w' => e = .returned (.tuple #[.agg #[.int .i64 0, .int .i64 0], .int .i64 1]) ∧ Grown w w' := by
  have H := Lib.hid h
  clear h
  go_enter Try.func21, Try.ntmps21
  go_wp2_with fail
  refine (av_no _ _ _ _ _ _ _ H.out ⟨by simp, ⟨by simp [go_sem], by simp [go_sem]⟩, ⟨by simp [go_sem], by simp [go_sem]⟩⟩).mono ?_
  rintro e w1 ⟨rfl, g1⟩
  obtain ⟨c1, f1, z1⟩ := laid g1
  try simp at z1
  have G1 : Grown w w1 := Grown.trans (by go_grown) g1
  clear g1
  have z1_0 : w.heap.size < w1.heap.size := by omega
  have z1_1 : w.heap.size + 1 < w1.heap.size := by omega
  have z1_2 : w.heap.size + 1 + 1 < w1.heap.size := by omega
  go_wp2_with fail
  refine bodyPost_ret (v := .tuple #[.agg #[.int .i64 0, .int .i64 0], .int .i64 1]) (by simp [results, Try.results21, go_sem, *]) rfl ⟨rfl, by go_grown⟩

theorem spJoin_ok (a b c d : Int) (w : World) (h : Vd a b ∧ Vd c d) : Calls Try.prog 21 #[.agg #[.int .i64 a, .int .i64 b], .agg #[.int .i64 c, .int .i64 d]] w fun e w' => e = .returned (.tuple #[.agg #[.int .i64 (mn a c), .int .i64 (mx b d)], .int .i64 0]) ∧ Grown w w' := by
  have H := Lib.hid h
  have K : Hid (Vd (mn a c) (mx b d)) := Lib.hid (by
    obtain ⟨⟨_, _, _⟩, ⟨_, _, _⟩⟩ := h
    rw [mn_min, mx_max]
    exact ⟨by omega, by omega, by omega⟩)
  have EX : Hid (∀ (bb cc : Nat) (w : World), bb < w.heap.size → w.cell? ⟨bb, 0, none⟩ = some (.int .i64 b) → w.cell? ⟨bb, 1, none⟩ = some (.int .i64 c) → w.cell? ⟨bb, 2, none⟩ = some (.int .i64 d) → Calls Try.prog 33 #[.int .i64 a, .slice (some ⟨bb, 0, none⟩) 3 cc] w fun e w' => e = .returned (.agg #[.int .i64 (mn a c), .int .i64 (mx b d)]) ∧ Grown w w') := Lib.hid (fun bb cc w hb q0 q1 q2 => by
    have t := ends3 a b c d bb cc w hb q0 q1 q2
    obtain ⟨⟨_, _, _⟩, ⟨_, _, _⟩⟩ := h
    have e1 : mn (mn (mn a b) c) d = mn a c := by simp only [mn_min]; omega
    have e2 : mx (mx (mx a b) c) d = mx b d := by simp only [mx_max]; omega
    rwa [e1, e2] at t)
  clear h
  obtain ⟨u, hu⟩ : ∃ u, u = mn a c := ⟨_, rfl⟩
  obtain ⟨v, hv⟩ : ∃ v, v = mx b d := ⟨_, rfl⟩
  rw [← hu, ← hv] at K EX ⊢
  clear hu hv
  go_enter Try.func21, Try.ntmps21
  go_wp2_with fail
  refine (av_yes _ _ _ _ _ _ _ H.out ⟨by simp, ⟨by simp [go_sem], by simp [go_sem]⟩, ⟨by simp [go_sem], by simp [go_sem]⟩⟩).mono ?_
  rintro e w1 ⟨rfl, g1⟩
  obtain ⟨c1, f1, z1⟩ := laid g1
  try simp at z1
  have G1 : Grown w w1 := Grown.trans (by go_grown) g1
  clear g1
  have z1_0 : w.heap.size < w1.heap.size := by omega
  have z1_1 : w.heap.size + 1 < w1.heap.size := by omega
  have z1_2 : w.heap.size + 1 + 1 < w1.heap.size := by omega
  go_wp2_with fail
  refine (EX.out _ _ _ (by simp) (by simp [go_sem]) (by simp [go_sem]) (by simp [go_sem])).mono ?_
  rintro e w2 ⟨rfl, g2⟩
  obtain ⟨c2, f2, z2⟩ := laid g2
  try simp at z2
  have G2 : Grown w w2 := Grown.trans (by go_grown) g2
  clear g2
  have z2_0 : w.heap.size < w2.heap.size := by omega
  have z2_1 : w.heap.size + 1 < w2.heap.size := by omega
  have z2_2 : w.heap.size + 1 + 1 < w2.heap.size := by omega
  go_wp2_with fail
  refine (spResult_yes _ _ _ K.out).mono ?_
  rintro e w3 ⟨rfl, g3⟩
  obtain ⟨c3, f3, z3⟩ := laid g3
  try simp at z3
  have G3 : Grown w w3 := Grown.trans (by go_grown) g3
  clear g3
  have z3_0 : w.heap.size < w3.heap.size := by omega
  have z3_1 : w.heap.size + 1 < w3.heap.size := by omega
  have z3_2 : w.heap.size + 1 + 1 < w3.heap.size := by omega
  go_wp2_with fail
  refine bodyPost_ret (v := .tuple #[.agg #[.int .i64 u, .int .i64 v], .int .i64 0]) (by simp [results, Try.results21, go_sem, *]) rfl ⟨rfl, by go_grown⟩

theorem spMeet_bad (a b c d : Int) (w : World) (h : ¬ (Vd a b ∧ Vd c d)) : Calls Try.prog 19 #[.agg #[.int .i64 a, .int .i64 b], .agg #[.int .i64 c, .int .i64 d]] w fun e w' => e = .returned (.tuple #[.agg #[.int .i64 0, .int .i64 0], .bool false, .int .i64 1]) ∧ Grown w w' := by
  have H := Lib.hid h
  clear h
  go_enter Try.func19, Try.ntmps19
  go_wp2_with fail
  refine (av_no _ _ _ _ _ _ _ H.out ⟨by simp, ⟨by simp [go_sem], by simp [go_sem]⟩, ⟨by simp [go_sem], by simp [go_sem]⟩⟩).mono ?_
  rintro e w1 ⟨rfl, g1⟩
  obtain ⟨c1, f1, z1⟩ := laid g1
  try simp at z1
  have G1 : Grown w w1 := Grown.trans (by go_grown) g1
  clear g1
  have z1_0 : w.heap.size < w1.heap.size := by omega
  have z1_1 : w.heap.size + 1 < w1.heap.size := by omega
  have z1_2 : w.heap.size + 1 + 1 < w1.heap.size := by omega
  go_wp2_with fail
  refine bodyPost_ret (v := .tuple #[.agg #[.int .i64 0, .int .i64 0], .bool false, .int .i64 1]) (by simp [results, Try.results19, go_sem, *]) rfl ⟨rfl, by go_grown⟩


set_option maxHeartbeats 800000 in
theorem spMeet_ok (a b c d : Int) (w : World) (h : Vd a b ∧ Vd c d) (k : mx a c ≤ mn b d) : Calls Try.prog 19 #[.agg #[.int .i64 a, .int .i64 b], .agg #[.int .i64 c, .int .i64 d]] w fun e w' => e = .returned (.tuple #[.agg #[.int .i64 (mx a c), .int .i64 (mn b d)], .bool true, .int .i64 0]) ∧ Grown w w' := by
  have H := Lib.hid h
  clear h
  rcases mx_cases a c with ⟨p, p'⟩ | ⟨p, p'⟩ <;> rcases mn_cases b d with ⟨q, q'⟩ | ⟨q, q'⟩ <;> rw [p', q'] at k ⊢ <;> clear p' q'
  · go_enter Try.func19, Try.ntmps19
    go_wp2_with fail
    refine (av_yes _ _ _ _ _ _ _ H.out ⟨by simp, ⟨by simp [go_sem], by simp [go_sem]⟩, ⟨by simp [go_sem], by simp [go_sem]⟩⟩).mono ?_
    rintro e w1 ⟨rfl, g1⟩
    obtain ⟨c1, f1, z1⟩ := laid g1
    try simp at z1
    have G1 : Grown w w1 := Grown.trans (by go_grown) g1
    clear g1
    have z1_0 : w.heap.size < w1.heap.size := by omega
    have z1_1 : w.heap.size + 1 < w1.heap.size := by omega
    have z1_2 : w.heap.size + 1 + 1 < w1.heap.size := by omega
    go_wp2_with fail
    refine bodyPost_ret (v := .tuple #[.agg #[.int .i64 c, .int .i64 d], .bool true, .int .i64 0]) (by simp [results, Try.results19, go_sem, *]) rfl ⟨rfl, by go_grown⟩
  · go_enter Try.func19, Try.ntmps19
    go_wp2_with fail
    refine (av_yes _ _ _ _ _ _ _ H.out ⟨by simp, ⟨by simp [go_sem], by simp [go_sem]⟩, ⟨by simp [go_sem], by simp [go_sem]⟩⟩).mono ?_
    rintro e w1 ⟨rfl, g1⟩
    obtain ⟨c1, f1, z1⟩ := laid g1
    try simp at z1
    have G1 : Grown w w1 := Grown.trans (by go_grown) g1
    clear g1
    have z1_0 : w.heap.size < w1.heap.size := by omega
    have z1_1 : w.heap.size + 1 < w1.heap.size := by omega
    have z1_2 : w.heap.size + 1 + 1 < w1.heap.size := by omega
    go_wp2_with fail
    refine bodyPost_ret (v := .tuple #[.agg #[.int .i64 c, .int .i64 b], .bool true, .int .i64 0]) (by simp [results, Try.results19, go_sem, *]) rfl ⟨rfl, by go_grown⟩
  · go_enter Try.func19, Try.ntmps19
    go_wp2_with fail
    refine (av_yes _ _ _ _ _ _ _ H.out ⟨by simp, ⟨by simp [go_sem], by simp [go_sem]⟩, ⟨by simp [go_sem], by simp [go_sem]⟩⟩).mono ?_
    rintro e w1 ⟨rfl, g1⟩
    obtain ⟨c1, f1, z1⟩ := laid g1
    try simp at z1
    have G1 : Grown w w1 := Grown.trans (by go_grown) g1
    clear g1
    have z1_0 : w.heap.size < w1.heap.size := by omega
    have z1_1 : w.heap.size + 1 < w1.heap.size := by omega
    have z1_2 : w.heap.size + 1 + 1 < w1.heap.size := by omega
    go_wp2_with fail
    refine bodyPost_ret (v := .tuple #[.agg #[.int .i64 a, .int .i64 d], .bool true, .int .i64 0]) (by simp [results, Try.results19, go_sem, *]) rfl ⟨rfl, by go_grown⟩
  · go_enter Try.func19, Try.ntmps19
    go_wp2_with fail
    refine (av_yes _ _ _ _ _ _ _ H.out ⟨by simp, ⟨by simp [go_sem], by simp [go_sem]⟩, ⟨by simp [go_sem], by simp [go_sem]⟩⟩).mono ?_
    rintro e w1 ⟨rfl, g1⟩
    obtain ⟨c1, f1, z1⟩ := laid g1
    try simp at z1
    have G1 : Grown w w1 := Grown.trans (by go_grown) g1
    clear g1
    have z1_0 : w.heap.size < w1.heap.size := by omega
    have z1_1 : w.heap.size + 1 < w1.heap.size := by omega
    have z1_2 : w.heap.size + 1 + 1 < w1.heap.size := by omega
    go_wp2_with fail
    refine bodyPost_ret (v := .tuple #[.agg #[.int .i64 a, .int .i64 b], .bool true, .int .i64 0]) (by simp [results, Try.results19, go_sem, *]) rfl ⟨rfl, by go_grown⟩

set_option maxHeartbeats 800000 in
theorem spMeet_none (a b c d : Int) (w : World) (h : Vd a b ∧ Vd c d) (k : mn b d < mx a c) : Calls Try.prog 19 #[.agg #[.int .i64 a, .int .i64 b], .agg #[.int .i64 c, .int .i64 d]] w fun e w' => e = .returned (.tuple #[.agg #[.int .i64 0, .int .i64 0], .bool false, .int .i64 0]) ∧ Grown w w' := by
  have H := Lib.hid h
  clear h
  rcases mx_cases a c with ⟨p, p'⟩ | ⟨p, p'⟩ <;> rcases mn_cases b d with ⟨q, q'⟩ | ⟨q, q'⟩ <;> rw [p', q'] at k <;> clear p' q'
  · go_enter Try.func19, Try.ntmps19
    go_wp2_with fail
    refine (av_yes _ _ _ _ _ _ _ H.out ⟨by simp, ⟨by simp [go_sem], by simp [go_sem]⟩, ⟨by simp [go_sem], by simp [go_sem]⟩⟩).mono ?_
    rintro e w1 ⟨rfl, g1⟩
    obtain ⟨c1, f1, z1⟩ := laid g1
    try simp at z1
    have G1 : Grown w w1 := Grown.trans (by go_grown) g1
    clear g1
    have z1_0 : w.heap.size < w1.heap.size := by omega
    have z1_1 : w.heap.size + 1 < w1.heap.size := by omega
    have z1_2 : w.heap.size + 1 + 1 < w1.heap.size := by omega
    go_wp2_with fail
    refine bodyPost_ret (v := .tuple #[.agg #[.int .i64 0, .int .i64 0], .bool false, .int .i64 0]) (by simp [results, Try.results19, go_sem, *]) rfl ⟨rfl, by go_grown⟩
  · go_enter Try.func19, Try.ntmps19
    go_wp2_with fail
    refine (av_yes _ _ _ _ _ _ _ H.out ⟨by simp, ⟨by simp [go_sem], by simp [go_sem]⟩, ⟨by simp [go_sem], by simp [go_sem]⟩⟩).mono ?_
    rintro e w1 ⟨rfl, g1⟩
    obtain ⟨c1, f1, z1⟩ := laid g1
    try simp at z1
    have G1 : Grown w w1 := Grown.trans (by go_grown) g1
    clear g1
    have z1_0 : w.heap.size < w1.heap.size := by omega
    have z1_1 : w.heap.size + 1 < w1.heap.size := by omega
    have z1_2 : w.heap.size + 1 + 1 < w1.heap.size := by omega
    go_wp2_with fail
    refine bodyPost_ret (v := .tuple #[.agg #[.int .i64 0, .int .i64 0], .bool false, .int .i64 0]) (by simp [results, Try.results19, go_sem, *]) rfl ⟨rfl, by go_grown⟩
  · go_enter Try.func19, Try.ntmps19
    go_wp2_with fail
    refine (av_yes _ _ _ _ _ _ _ H.out ⟨by simp, ⟨by simp [go_sem], by simp [go_sem]⟩, ⟨by simp [go_sem], by simp [go_sem]⟩⟩).mono ?_
    rintro e w1 ⟨rfl, g1⟩
    obtain ⟨c1, f1, z1⟩ := laid g1
    try simp at z1
    have G1 : Grown w w1 := Grown.trans (by go_grown) g1
    clear g1
    have z1_0 : w.heap.size < w1.heap.size := by omega
    have z1_1 : w.heap.size + 1 < w1.heap.size := by omega
    have z1_2 : w.heap.size + 1 + 1 < w1.heap.size := by omega
    go_wp2_with fail
    refine bodyPost_ret (v := .tuple #[.agg #[.int .i64 0, .int .i64 0], .bool false, .int .i64 0]) (by simp [results, Try.results19, go_sem, *]) rfl ⟨rfl, by go_grown⟩
  · go_enter Try.func19, Try.ntmps19
    go_wp2_with fail
    refine (av_yes _ _ _ _ _ _ _ H.out ⟨by simp, ⟨by simp [go_sem], by simp [go_sem]⟩, ⟨by simp [go_sem], by simp [go_sem]⟩⟩).mono ?_
    rintro e w1 ⟨rfl, g1⟩
    obtain ⟨c1, f1, z1⟩ := laid g1
    try simp at z1
    have G1 : Grown w w1 := Grown.trans (by go_grown) g1
    clear g1
    have z1_0 : w.heap.size < w1.heap.size := by omega
    have z1_1 : w.heap.size + 1 < w1.heap.size := by omega
    have z1_2 : w.heap.size + 1 + 1 < w1.heap.size := by omega
    go_wp2_with fail
    refine bodyPost_ret (v := .tuple #[.agg #[.int .i64 0, .int .i64 0], .bool false, .int .i64 0]) (by simp [results, Try.results19, go_sem, *]) rfl ⟨rfl, by go_grown⟩
end Sn
end Go.Proofs.Ytpendmjfmhjibaa
