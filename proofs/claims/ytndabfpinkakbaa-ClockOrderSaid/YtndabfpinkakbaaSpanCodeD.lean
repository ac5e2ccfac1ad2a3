/-
  Package span as it landed: Has, Add, Sub, Join, Meet.
-/
import Derived.Test.YtndabfpinkakbaaSpanCodeC
namespace Go.Proofs.Ytndabfpinkakbaa
open Go.RowKit
namespace Sn

theorem spAdd_bad (a b c d : Int) (w : World) (h : ¬ (Vd a b ∧ Vd c d)) : Calls Try.prog 42 #[.agg #[.int .i64 a, .int .i64 b], .agg #[.int .i64 c, .int .i64 d]] w fun e w' => e = .returned (.tuple #[.agg #[.int .i64 0, .int .i64 0], .int .i64 1]) ∧ Grown w w' := by
  have H := Lib.hid h
  clear h
  go_enter Try.func42, Try.ntmps42
  go_wp2_with fail
  refine (av_no _ _ _ _ _ _ _ H.out ⟨by simp, ⟨by simp [go_sem], by simp [go_sem]⟩, ⟨by simp [go_sem], by simp [go_sem]⟩⟩).mono ?_
  rintro e w1 ⟨rfl, g1⟩
  obtain ⟨c1, f1, z1⟩ := laid g1
  try simp at z1
  have G1 : Grown w w1 := Grown.trans (by go_grown) g1
  clear g1
  have z1_0 : w.heap.size < w1.heap.size := by omega
  have z1_1 : w.heap.size + 1 < w1.heap.size := by omega
  have z1_2 : w.heap.size + 1 + 1 < w1.heap.size := by omega
  go_wp2_with fail
  refine bodyPost_ret (v := .tuple #[.agg #[.int .i64 0, .int .i64 0], .int .i64 1]) (by simp [results, Try.results42, go_sem, *]) rfl ⟨rfl, by go_grown⟩

theorem spAdd_ok (a b c d : Int) (w : World) (h : Vd a b ∧ Vd c d) (k : Vd (a + c) (b + d)) : Calls Try.prog 42 #[.agg #[.int .i64 a, .int .i64 b], .agg #[.int .i64 c, .int .i64 d]] w fun e w' => e = .returned (.tuple #[.agg #[.int .i64 (a + c), .int .i64 (b + d)], .int .i64 0]) ∧ Grown w w' := by
  have H := Lib.hid h
  have K := Lib.hid k
  have EX : Hid (∀ (bb cc : Nat) (w : World), bb < w.heap.size → w.cell? ⟨bb, 0, none⟩ = some (.int .i64 (b + d)) → Calls Try.prog 39 #[.int .i64 (a + c), .slice (some ⟨bb, 0, none⟩) 1 cc] w fun e w' => e = .returned (.agg #[.int .i64 (a + c), .int .i64 (b + d)]) ∧ Grown w w') := Lib.hid (fun bb cc w hb q => by
    have := ends1 (a + c) (b + d) bb cc w hb q
    have p1 := h.1.2.1
    have p2 := h.2.2.1
    rwa [mn_min, mx_max, Int.min_eq_left (by omega), Int.max_eq_right (by omega)] at this)
  obtain ⟨⟨_, _, _⟩, ⟨_, _, _⟩⟩ := h
  clear k
  go_enter Try.func42, Try.ntmps42
  go_wp2_with fail
  refine (av_yes _ _ _ _ _ _ _ H.out ⟨by simp, ⟨by simp [go_sem], by simp [go_sem]⟩, ⟨by simp [go_sem], by simp [go_sem]⟩⟩).mono ?_
  rintro e w1 ⟨rfl, g1⟩
  obtain ⟨c1, f1, z1⟩ := laid g1
  try simp at z1
  have G1 : Grown w w1 := Grown.trans (by go_grown) g1
  clear g1
  have z1_0 : w.heap.size < w1.heap.size := by omega
  have z1_1 : w.heap.size + 1 < w1.heap.size := by omega
  have z1_2 : w.heap.size + 1 + 1 < w1.heap.size := by omega
  go_wp2_with fail
  refine (EX.out _ _ _ (by simp) (by simp [go_sem])).mono ?_
  rintro e w2 ⟨rfl, g2⟩
  obtain ⟨c2, f2, z2⟩ := laid g2
  try simp at z2
  have G2 : Grown w w2 := Grown.trans (by go_grown) g2
  clear g2
  have z2_0 : w.heap.size < w2.heap.size := by omega
  have z2_1 : w.heap.size + 1 < w2.heap.size := by omega
  have z2_2 : w.heap.size + 1 + 1 < w2.heap.size := by omega
  go_wp2_with fail
  refine (spResult_yes _ _ _ K.out).mono ?_
  rintro e w3 ⟨rfl, g3⟩
  obtain ⟨c3, f3, z3⟩ := laid g3
  try simp at z3
  have G3 : Grown w w3 := Grown.trans (by go_grown) g3
  clear g3
  have z3_0 : w.heap.size < w3.heap.size := by omega
  have z3_1 : w.heap.size + 1 < w3.heap.size := by omega
  have z3_2 : w.heap.size + 1 + 1 < w3.heap.size := by omega
  go_wp2_with fail
  refine bodyPost_ret (v := .tuple #[.agg #[.int .i64 (a + c), .int .i64 (b + d)], .int .i64 0]) (by simp [results, Try.results42, go_sem, *]) rfl ⟨rfl, by go_grown⟩

theorem spAdd_range (a b c d : Int) (w : World) (h : Vd a b ∧ Vd c d) (k : ¬ Vd (a + c) (b + d)) : Calls Try.prog 42 #[.agg #[.int .i64 a, .int .i64 b], .agg #[.int .i64 c, .int .i64 d]] w fun e w' => e = .returned (.tuple #[.agg #[.int .i64 0, .int .i64 0], .int .i64 3]) ∧ Grown w w' := by
  have H := Lib.hid h
  have K := Lib.hid k
  have EX : Hid (∀ (bb cc : Nat) (w : World), bb < w.heap.size → w.cell? ⟨bb, 0, none⟩ = some (.int .i64 (b + d)) → Calls Try.prog 39 #[.int .i64 (a + c), .slice (some ⟨bb, 0, none⟩) 1 cc] w fun e w' => e = .returned (.agg #[.int .i64 (a + c), .int .i64 (b + d)]) ∧ Grown w w') := Lib.hid (fun bb cc w hb q => by
    have := ends1 (a + c) (b + d) bb cc w hb q
    have p1 := h.1.2.1
    have p2 := h.2.2.1
    rwa [mn_min, mx_max, Int.min_eq_left (by omega), Int.max_eq_right (by omega)] at this)
  obtain ⟨⟨_, _, _⟩, ⟨_, _, _⟩⟩ := h
  clear k
  go_enter Try.func42, Try.ntmps42
  go_wp2_with fail
  refine (av_yes _ _ _ _ _ _ _ H.out ⟨by simp, ⟨by simp [go_sem], by simp [go_sem]⟩, ⟨by simp [go_sem], by simp [go_sem]⟩⟩).mono ?_
  rintro e w1 ⟨rfl, g1⟩
  obtain ⟨c1, f1, z1⟩ := laid g1
  try simp at z1
  have G1 : Grown w w1 := Grown.trans (by go_grown) g1
  clear g1
  have z1_0 : w.heap.size < w1.heap.size := by omega
  have z1_1 : w.heap.size + 1 < w1.heap.size := by omega
  have z1_2 : w.heap.size + 1 + 1 < w1.heap.size := by omega
  go_wp2_with fail
  refine (EX.out _ _ _ (by simp) (by simp [go_sem])).mono ?_
  rintro e w2 ⟨rfl, g2⟩
  obtain ⟨c2, f2, z2⟩ := laid g2
  try simp at z2
  have G2 : Grown w w2 := Grown.trans (by go_grown) g2
  clear g2
  have z2_0 : w.heap.size < w2.heap.size := by omega
  have z2_1 : w.heap.size + 1 < w2.heap.size := by omega
  have z2_2 : w.heap.size + 1 + 1 < w2.heap.size := by omega
  go_wp2_with fail
  refine (spResult_no _ _ _ K.out).mono ?_
  rintro e w3 ⟨rfl, g3⟩
  obtain ⟨c3, f3, z3⟩ := laid g3
  try simp at z3
  have G3 : Grown w w3 := Grown.trans (by go_grown) g3
  clear g3
  have z3_0 : w.heap.size < w3.heap.size := by omega
  have z3_1 : w.heap.size + 1 < w3.heap.size := by omega
  have z3_2 : w.heap.size + 1 + 1 < w3.heap.size := by omega
  go_wp2_with fail
  refine bodyPost_ret (v := .tuple #[.agg #[.int .i64 0, .int .i64 0], .int .i64 3]) (by simp [results, Try.results42, go_sem, *]) rfl ⟨rfl, by go_grown⟩


theorem spSub_bad (a b c d : Int) (w : World) (h : ¬ (Vd a b ∧ Vd c d)) : Calls Try.prog 35 #[.agg #[.int .i64 a, .int .i64 b], .agg #[.int .i64 c, .int .i64 d]] w fun e w' => e = .returned (.tuple #[.agg #[.int .i64 0, .int .i64 0], .int .i64 1]) ∧ Grown w w' := by
  have H := Lib.hid h
  clear h
  go_enter Try.func35, Try.ntmps35
  go_wp2_with fail
  refine (av_no _ _ _ _ _ _ _ H.out ⟨by simp, ⟨by simp [go_sem], by simp [go_sem]⟩, ⟨by simp [go_sem], by simp [go_sem]⟩⟩).mono ?_
  rintro e w1 ⟨rfl, g1⟩
  obtain ⟨c1, f1, z1⟩ := laid g1
  try simp at z1
  have G1 : Grown w w1 := Grown.trans (by go_grown) g1
  clear g1
  have z1_0 : w.heap.size < w1.heap.size := by omega
  have z1_1 : w.heap.size + 1 < w1.heap.size := by omega
  have z1_2 : w.heap.size + 1 + 1 < w1.heap.size := by omega
  go_wp2_with fail
  refine bodyPost_ret (v := .tuple #[.agg #[.int .i64 0, .int .i64 0], .int .i64 1]) (by simp [results, Try.results35, go_sem, *]) rfl ⟨rfl, by go_grown⟩

theorem spSub_ok (a b c d : Int) (w : World) (h : Vd a b ∧ Vd c d) (k : Vd (a - d) (b - c)) : Calls Try.prog 35 #[.agg #[.int .i64 a, .int .i64 b], .agg #[.int .i64 c, .int .i64 d]] w fun e w' => e = .returned (.tuple #[.agg #[.int .i64 (a - d), .int .i64 (b - c)], .int .i64 0]) ∧ Grown w w' := by
  have H := Lib.hid h
  have K := Lib.hid k
  have EX : Hid (∀ (bb cc : Nat) (w : World), bb < w.heap.size → w.cell? ⟨bb, 0, none⟩ = some (.int .i64 (b - c)) → Calls Try.prog 39 #[.int .i64 (a - d), .slice (some ⟨bb, 0, none⟩) 1 cc] w fun e w' => e = .returned (.agg #[.int .i64 (a - d), .int .i64 (b - c)]) ∧ Grown w w') := Lib.hid (fun bb cc w hb q => by
    have := ends1 (a - d) (b - c) bb cc w hb q
    have p1 := h.1.2.1
    have p2 := h.2.2.1
    rwa [mn_min, mx_max, Int.min_eq_left (by omega), Int.max_eq_right (by omega)] at this)
  obtain ⟨⟨_, _, _⟩, ⟨_, _, _⟩⟩ := h
  clear k
  go_enter Try.func35, Try.ntmps35
  go_wp2_with fail
  refine (av_yes _ _ _ _ _ _ _ H.out ⟨by simp, ⟨by simp [go_sem], by simp [go_sem]⟩, ⟨by simp [go_sem], by simp [go_sem]⟩⟩).mono ?_
  rintro e w1 ⟨rfl, g1⟩
  obtain ⟨c1, f1, z1⟩ := laid g1
  try simp at z1
  have G1 : Grown w w1 := Grown.trans (by go_grown) g1
  clear g1
  have z1_0 : w.heap.size < w1.heap.size := by omega
  have z1_1 : w.heap.size + 1 < w1.heap.size := by omega
  have z1_2 : w.heap.size + 1 + 1 < w1.heap.size := by omega
  go_wp2_with fail
  refine (EX.out _ _ _ (by simp) (by simp [go_sem])).mono ?_
  rintro e w2 ⟨rfl, g2⟩
  obtain ⟨c2, f2, z2⟩ := laid g2
  try simp at z2
  have G2 : Grown w w2 := Grown.trans (by go_grown) g2
  clear g2
  have z2_0 : w.heap.size < w2.heap.size := by omega
  have z2_1 : w.heap.size + 1 < w2.heap.size := by omega
  have z2_2 : w.heap.size + 1 + 1 < w2.heap.size := by omega
  go_wp2_with fail
  refine (spResult_yes _ _ _ K.out).mono ?_
  rintro e w3 ⟨rfl, g3⟩
  obtain ⟨c3, f3, z3⟩ := laid g3
  try simp at z3
  have G3 : Grown w w3 := Grown.trans (by go_grown) g3
  clear g3
  have z3_0 : w.heap.size < w3.heap.size := by omega
  have z3_1 : w.heap.size + 1 < w3.heap.size := by omega
  have z3_2 : w.heap.size + 1 + 1 < w3.heap.size := by omega
  go_wp2_with fail
  refine bodyPost_ret (v := .tuple #[.agg #[.int .i64 (a - d), .int .i64 (b - c)], .int .i64 0]) (by simp [results, Try.results35, go_sem, *]) rfl ⟨rfl, by go_grown⟩

theorem spSub_range (a b c d : Int) (w : World) (h : Vd a b ∧ Vd c d) (k : ¬ Vd (a - d) (b - c)) : Calls Try.prog 35 #[.agg #[.int .i64 a, .int .i64 b], .agg #[.int .i64 c, .int .i64 d]] w fun e w' => e = .returned (.tuple #[.agg #[.int .i64 0, .int .i64 0], .int .i64 3]) ∧ Grown w w' := by
  have H := Lib.hid h
  have K := Lib.hid k
  have EX : Hid (∀ (bb cc : Nat) (w : World), bb < w.heap.size → w.cell? ⟨bb, 0, none⟩ = some (.int .i64 (b - c)) → Calls Try.prog 39 #[.int .i64 (a - d), .slice (some ⟨bb, 0, none⟩) 1 cc] w fun e w' => e = .returned (.agg #[.int .i64 (a - d), .int .i64 (b - c)]) ∧ Grown w w') := Lib.hid (fun bb cc w hb q => by
    have := ends1 (a - d) (b - c) bb cc w hb q
    have p1 := h.1.2.1
    have p2 := h.2.2.1
    rwa [mn_min, mx_max, Int.min_eq_left (by omega), Int.max_eq_right (by omega)] at this)
  obtain ⟨⟨_, _, _⟩, ⟨_, _, _⟩⟩ := h
  clear k
  go_enter Try.func35, Try.ntmps35
  go_wp2_with fail
  refine (av_yes _ _ _ _ _ _ _ H.out ⟨by simp, ⟨by simp [go_sem], by simp [go_sem]⟩, ⟨by simp [go_sem], by simp [go_sem]⟩⟩).mono ?_
  rintro e w1 ⟨rfl, g1⟩
  obtain ⟨c1, f1, z1⟩ := laid g1
  try simp at z1
  have G1 : Grown w w1 := Grown.trans (by go_grown) g1
  clear g1
  have z1_0 : w.heap.size < w1.heap.size := by omega
  have z1_1 : w.heap.size + 1 < w1.heap.size := by omega
  have z1_2 : w.heap.size + 1 + 1 < w1.heap.size := by omega
  go_wp2_with fail
  refine (EX.out _ _ _ (by simp) (by simp [go_sem])).mono ?_
  rintro e w2 ⟨rfl, g2⟩
  obtain ⟨c2, f2, z2⟩ := laid g2
  try simp at z2
  have G2 : Grown w w2 := Grown.trans (by go_grown) g2
  clear g2
  have z2_0 : w.heap.size < w2.heap.size := by omega
  have z2_1 : w.heap.size + 1 < w2.heap.size := by omega
  have z2_2 : w.heap.size + 1 + 1 < w2.heap.size := by omega
  go_wp2_with fail
  refine (spResult_no _ _ _ K.out).mono ?_
  rintro e w3 ⟨rfl, g3⟩
  obtain ⟨c3, f3, z3⟩ := laid g3
  try simp at z3
  have G3 : Grown w w3 := Grown.trans (by go_grown) g3
  clear g3
  have z3_0 : w.heap.size < w3.heap.size := by omega
  have z3_1 : w.heap.size + 1 < w3.heap.size := by omega
  have z3_2 : w.heap.size + 1 + 1 < w3.heap.size := by omega
  go_wp2_with fail
  refine bodyPost_ret (v := .tuple #[.agg #[.int .i64 0, .int .i64 0], .int .i64 3]) (by simp [results, Try.results35, go_sem, *]) rfl ⟨rfl, by go_grown⟩


theorem spMeet_bad (a b c d : Int) (w : World) (h : ¬ (Vd a b ∧ Vd c d)) : Calls Try.prog 22 #[.agg #[.int .i64 a, .int .i64 b], .agg #[.int .i64 c, .int .i64 d]] w fun e w' => e = .returned (.tuple #[.agg #[.int .i64 0, .int .i64 0], .bool false, .int .i64 1]) ∧ Grown w w' := by
  have H := Lib.hid h
  clear h
  go_enter Try.func22, Try.ntmps22
  go_wp2_with fail
  refine (av_no _ _ _ _ _ _ _ H.out ⟨by simp, ⟨by simp [go_sem], by simp [go_sem]⟩, ⟨by simp [go_sem], by simp [go_sem]⟩⟩).mono ?_
  rintro e w1 ⟨rfl, g1⟩
  obtain ⟨c1, f1, z1⟩ := laid g1
  try simp at z1
  have G1 : Grown w w1 := Grown.trans (by go_grown) g1
  clear g1
  have z1_0 : w.heap.size < w1.heap.size := by omega
  have z1_1 : w.heap.size + 1 < w1.heap.size := by omega
  have z1_2 : w.heap.size + 1 + 1 < w1.heap.size := by omega
  go_wp2_with fail
  refine bodyPost_ret (v := .tuple #[.agg #[.int .i64 0, .int .i64 0], .bool false, .int .i64 1]) (by simp [results, Try.results22, go_sem, *]) rfl ⟨rfl, by go_grown⟩


set_option maxHeartbeats 800000 in
theorem spMeet_ok (a b c d : Int) (w : World) (h : Vd a b ∧ Vd c d) (k : mx a c ≤ mn b d) : Calls Try.prog 22 #[.agg #[.int .i64 a, .int .i64 b], .agg #[.int .i64 c, .int .i64 d]] w fun e w' => e = .returned (.tuple #[.agg #[.int .i64 (mx a c), .int .i64 (mn b d)], .bool true, .int .i64 0]) ∧ Grown w w' := by
  have H := Lib.hid h
  clear h
  rcases mx_cases a c with ⟨p, p'⟩ | ⟨p, p'⟩ <;> rcases mn_cases b d with ⟨q, q'⟩ | ⟨q, q'⟩ <;> rw [p', q'] at k ⊢ <;> clear p' q'
  · go_enter Try.func22, Try.ntmps22
    go_wp2_with fail
    refine (av_yes _ _ _ _ _ _ _ H.out ⟨by simp, ⟨by simp [go_sem], by simp [go_sem]⟩, ⟨by simp [go_sem], by simp [go_sem]⟩⟩).mono ?_
    rintro e w1 ⟨rfl, g1⟩
    obtain ⟨c1, f1, z1⟩ := laid g1
    try simp at z1
    have G1 : Grown w w1 := Grown.trans (by go_grown) g1
    clear g1
    have z1_0 : w.heap.size < w1.heap.size := by omega
    have z1_1 : w.heap.size + 1 < w1.heap.size := by omega
    have z1_2 : w.heap.size + 1 + 1 < w1.heap.size := by omega
    go_wp2_with fail
    refine bodyPost_ret (v := .tuple #[.agg #[.int .i64 c, .int .i64 d], .bool true, .int .i64 0]) (by simp [results, Try.results22, go_sem, *]) rfl ⟨rfl, by go_grown⟩
  · go_enter Try.func22, Try.ntmps22
    go_wp2_with fail
    refine (av_yes _ _ _ _ _ _ _ H.out ⟨by simp, ⟨by simp [go_sem], by simp [go_sem]⟩, ⟨by simp [go_sem], by simp [go_sem]⟩⟩).mono ?_
    rintro e w1 ⟨rfl, g1⟩
    obtain ⟨c1, f1, z1⟩ := laid g1
    try simp at z1
    have G1 : Grown w w1 := Grown.trans (by go_grown) g1
    clear g1
    have z1_0 : w.heap.size < w1.heap.size := by omega
    have z1_1 : w.heap.size + 1 < w1.heap.size := by omega
    have z1_2 : w.heap.size + 1 + 1 < w1.heap.size := by omega
    go_wp2_with fail
    refine bodyPost_ret (v := .tuple #[.agg #[.int .i64 c, .int .i64 b], .bool true, .int .i64 0]) (by simp [results, Try.results22, go_sem, *]) rfl ⟨rfl, by go_grown⟩
  · go_enter Try.func22, Try.ntmps22
    go_wp2_with fail
    refine (av_yes _ _ _ _ _ _ _ H.out ⟨by simp, ⟨by simp [go_sem], by simp [go_sem]⟩, ⟨by simp [go_sem], by simp [go_sem]⟩⟩).mono ?_
    rintro e w1 ⟨rfl, g1⟩
    obtain ⟨c1, f1, z1⟩ := laid g1
    try simp at z1
    have G1 : Grown w w1 := Grown.trans (by go_grown) g1
    clear g1
    have z1_0 : w.heap.size < w1.heap.size := by omega
    have z1_1 : w.heap.size + 1 < w1.heap.size := by omega
    have z1_2 : w.heap.size + 1 + 1 < w1.heap.size := by omega
    go_wp2_with fail
    refine bodyPost_ret (v := .tuple #[.agg #[.int .i64 a, .int .i64 d], .bool true, .int .i64 0]) (by simp [results, Try.results22, go_sem, *]) rfl ⟨rfl, by go_grown⟩
  · go_enter Try.func22, Try.ntmps22
    go_wp2_with fail
    refine (av_yes _ _ _ _ _ _ _ H.out ⟨by simp, ⟨by simp [go_sem], by simp [go_sem]⟩, ⟨by simp [go_sem], by simp [go_sem]⟩⟩).mono ?_
    rintro e w1 ⟨rfl, g1⟩
    obtain ⟨c1, f1, z1⟩ := laid g1
    try simp at z1
    have G1 : Grown w w1 := Grown.trans (by go_grown) g1
    clear g1
    have z1_0 : w.heap.size < w1.heap.size := by omega
    have z1_1 : w.heap.size + 1 < w1.heap.size := by omega
    have z1_2 : w.heap.size + 1 + 1 < w1.heap.size := by omega
    go_wp2_with fail
    refine bodyPost_ret (v := .tuple #[.agg #[.int .i64 a, .int .i64 b], .bool true, .int .i64 0]) (by simp [results, Try.results22, go_sem, *]) rfl ⟨rfl, by go_grown⟩

set_option maxHeartbeats 800000 in
theorem spMeet_none (a b c d : Int) (w : World) (h : Vd a b ∧ Vd c d) (k : mn b d < mx a c) : Calls Try.prog 22 #[.agg #[.int .i64 a, .int .i64 b], .agg #[.int .i64 c, .int .i64 d]] w fun e w' => e = .returned (.tuple #[.agg #[.int .i64 0, .int .i64 0], .bool false, .int .i64 0]) ∧ Grown w w' := by
  have H := Lib.hid h
  clear h
  rcases mx_cases a c with ⟨p, p'⟩ | ⟨p, p'⟩ <;> rcases mn_cases b d with ⟨q, q'⟩ | ⟨q, q'⟩ <;> rw [p', q'] at k <;> clear p' q'
  · go_enter Try.func22, Try.ntmps22
    go_wp2_with fail
    refine (av_yes _ _ _ _ _ _ _ H.out ⟨by simp, ⟨by simp [go_sem], by simp [go_sem]⟩, ⟨by simp [go_sem], by simp [go_sem]⟩⟩).mono ?_
    rintro e w1 ⟨rfl, g1⟩
    obtain ⟨c1, f1, z1⟩ := laid g1
    try simp at z1
    have G1 : Grown w w1 := Grown.trans (by go_grown) g1
    clear g1
    have z1_0 : w.heap.size < w1.heap.size := by omega
    have z1_1 : w.heap.size + 1 < w1.heap.size := by omega
    have z1_2 : w.heap.size + 1 + 1 < w1.heap.size := by omega
    go_wp2_with fail
    refine bodyPost_ret (v := .tuple #[.agg #[.int .i64 0, .int .i64 0], .bool false, .int .i64 0]) (by simp [results, Try.results22, go_sem, *]) rfl ⟨rfl, by go_grown⟩
  · go_enter Try.func22, Try.ntmps22
    go_wp2_with fail
    refine (av_yes _ _ _ _ _ _ _ H.out ⟨by simp, ⟨by simp [go_sem], by simp [go_sem]⟩, ⟨by simp [go_sem], by simp [go_sem]⟩⟩).mono ?_
    rintro e w1 ⟨rfl, g1⟩
    obtain ⟨c1, f1, z1⟩ := laid g1
    try simp at z1
    have G1 : Grown w w1 := Grown.trans (by go_grown) g1
    clear g1
    have z1_0 : w.heap.size < w1.heap.size := by omega
    have z1_1 : w.heap.size + 1 < w1.heap.size := by omega
    have z1_2 : w.heap.size + 1 + 1 < w1.heap.size := by omega
    go_wp2_with fail
    refine bodyPost_ret (v := .tuple #[.agg #[.int .i64 0, .int .i64 0], .bool false, .int .i64 0]) (by simp [results, Try.results22, go_sem, *]) rfl ⟨rfl, by go_grown⟩
  · go_enter Try.func22, Try.ntmps22
    go_wp2_with fail
    refine (av_yes _ _ _ _ _ _ _ H.out ⟨by simp, ⟨by simp [go_sem], by simp [go_sem]⟩, ⟨by simp [go_sem], by simp [go_sem]⟩⟩).mono ?_
    rintro e w1 ⟨rfl, g1⟩
    obtain ⟨c1, f1, z1⟩ := laid g1
    try simp at z1
    have G1 : Grown w w1 := Grown.trans (by go_grown) g1
    clear g1
    have z1_0 : w.heap.size < w1.heap.size := by omega
    have z1_1 : w.heap.size + 1 < w1.heap.size := by omega
    have z1_2 : w.heap.size + 1 + 1 < w1.heap.size := by omega
    go_wp2_with fail
    refine bodyPost_ret (v := .tuple #[.agg #[.int .i64 0, .int .i64 0], .bool false, .int .i64 0]) (by simp [results, Try.results22, go_sem, *]) rfl ⟨rfl, by go_grown⟩
  · go_enter Try.func22, Try.ntmps22
    go_wp2_with fail
    refine (av_yes _ _ _ _ _ _ _ H.out ⟨by simp, ⟨by simp [go_sem], by simp [go_sem]⟩, ⟨by simp [go_sem], by simp [go_sem]⟩⟩).mono ?_
    rintro e w1 ⟨rfl, g1⟩
    obtain ⟨c1, f1, z1⟩ := laid g1
    try simp at z1
    have G1 : Grown w w1 := Grown.trans (by go_grown) g1
    clear g1
    have z1_0 : w.heap.size < w1.heap.size := by omega
    have z1_1 : w.heap.size + 1 < w1.heap.size := by omega
    have z1_2 : w.heap.size + 1 + 1 < w1.heap.size := by omega
    go_wp2_with fail
    refine bodyPost_ret (v := .tuple #[.agg #[.int .i64 0, .int .i64 0], .bool false, .int .i64 0]) (by simp [results, Try.results22, go_sem, *]) rfl ⟨rfl, by go_grown⟩
end Sn
end Go.Proofs.Ytndabfpinkakbaa
