/-
  The reference implementation of layer 2: Join, Meet, Times.
-/
import Derived.Test.YtpendmjfmhjibaaSpanRef
namespace Go.Proofs.Ytpendmjfmhjibaa
open Go.RowKit
namespace Sn

theorem refJoin_bad (a b c d : Int) (w : World) (h : ¬ (Vd a b ∧ Vd c d)) : Calls Try.prog 22 #[.agg #[.int .i64 a, .int .i64 b], .agg #[.int .i64 c, .int .i64 d]] w fun e w' => e = .returned (.tuple #[.agg #[.int .i64 0, .int .i64 0], .int .i64 1]) ∧ Grown w w' := by
  have H := Lib.hid h
  clear h
  go_enter Try.func22, Try.ntmps22
  go_wp2_with fail
  refine (refBoth_no _ _ _ _ _ H.out).mono ?_
  rintro e w1 ⟨rfl, g1⟩
  obtain ⟨c1, f1, z1⟩ := laid g1
  try simp at z1
  have G1 : Grown w w1 := Grown.trans (by go_grown) g1
  clear g1
  have z1_0 : w.heap.size < w1.heap.size := by omega
  have z1_1 : w.heap.size + 1 < w1.heap.size := by omega
  have z1_2 : w.heap.size + 1 + 1 < w1.heap.size := by omega
  go_wp2_with fail
  refine bodyPost_ret (v := .tuple #[.agg #[.int .i64 0, .int .i64 0], .int .i64 1]) (by simp [results, Try.results22, go_sem, *]) rfl ⟨rfl, by go_grown⟩

theorem refJoin_ok (a b c d : Int) (w : World) (h : Vd a b ∧ Vd c d) : Calls Try.prog 22 #[.agg #[.int .i64 a, .int .i64 b], .agg #[.int .i64 c, .int .i64 d]] w fun e w' => e = .returned (.tuple #[.agg #[.int .i64 (mn a c), .int .i64 (mx b d)], .int .i64 0]) ∧ Grown w w' := by
  have H := Lib.hid h
  clear h
  rcases mn_cases a c with ⟨p, p'⟩ | ⟨p, p'⟩ <;> rcases mx_cases b d with ⟨q, q'⟩ | ⟨q, q'⟩ <;> rw [p', q'] <;> clear p' q'
  · go_enter Try.func22, Try.ntmps22
    go_wp2_with fail
    refine (refBoth_yes _ _ _ _ _ H.out).mono ?_
    rintro e w1 ⟨rfl, g1⟩
    obtain ⟨c1, f1, z1⟩ := laid g1
    try simp at z1
    have G1 : Grown w w1 := Grown.trans (by go_grown) g1
    clear g1
    have z1_0 : w.heap.size < w1.heap.size := by omega
    have z1_1 : w.heap.size + 1 < w1.heap.size := by omega
    have z1_2 : w.heap.size + 1 + 1 < w1.heap.size := by omega
    go_wp2_with fail
    refine bodyPost_ret (v := .tuple #[.agg #[.int .i64 c, .int .i64 d], .int .i64 0]) (by simp [results, Try.results22, go_sem, *]) rfl ⟨rfl, by go_grown⟩
  · go_enter Try.func22, Try.ntmps22
    go_wp2_with fail
    refine (refBoth_yes _ _ _ _ _ H.out).mono ?_
    rintro e w1 ⟨rfl, g1⟩
    obtain ⟨c1, f1, z1⟩ := laid g1
    try simp at z1
    have G1 : Grown w w1 := Grown.trans (by go_grown) g1
    clear g1
    have z1_0 : w.heap.size < w1.heap.size := by omega
    have z1_1 : w.heap.size + 1 < w1.heap.size := by omega
    have z1_2 : w.heap.size + 1 + 1 < w1.heap.size := by omega
    go_wp2_with fail
    refine bodyPost_ret (v := .tuple #[.agg #[.int .i64 c, .int .i64 b], .int .i64 0]) (by simp [results, Try.results22, go_sem, *]) rfl ⟨rfl, by go_grown⟩
  · go_enter Try.func22, Try.ntmps22
    go_wp2_with fail
    refine (refBoth_yes _ _ _ _ _ H.out).mono ?_
    rintro e w1 ⟨rfl, g1⟩
    obtain ⟨c1, f1, z1⟩ := laid g1
    try simp at z1
    have G1 : Grown w w1 := Grown.trans (by go_grown) g1
    clear g1
    have z1_0 : w.heap.size < w1.heap.size := by omega
    have z1_1 : w.heap.size + 1 < w1.heap.size := by omega
    have z1_2 : w.heap.size + 1 + 1 < w1.heap.size := by omega
    go_wp2_with fail
    refine bodyPost_ret (v := .tuple #[.agg #[.int .i64 a, .int .i64 d], .int .i64 0]) (by simp [results, Try.results22, go_sem, *]) rfl ⟨rfl, by go_grown⟩
  · go_enter Try.func22, Try.ntmps22
    go_wp2_with fail
    refine (refBoth_yes _ _ _ _ _ H.out).mono ?_
    rintro e w1 ⟨rfl, g1⟩
    obtain ⟨c1, f1, z1⟩ := laid g1
    try simp at z1
    have G1 : Grown w w1 := Grown.trans (by go_grown) g1
    clear g1
    have z1_0 : w.heap.size < w1.heap.size := by omega
    have z1_1 : w.heap.size + 1 < w1.heap.size := by omega
    have z1_2 : w.heap.size + 1 + 1 < w1.heap.size := by omega
    go_wp2_with fail
    refine bodyPost_ret (v := .tuple #[.agg #[.int .i64 a, .int .i64 b], .int .i64 0]) (by simp [results, Try.results22, go_sem, *]) rfl ⟨rfl, by go_grown⟩

theorem refMeet_bad (a b c d : Int) (w : World) (h : ¬ (Vd a b ∧ Vd c d)) : Calls Try.prog 20 #[.agg #[.int .i64 a, .int .i64 b], .agg #[.int .i64 c, .int .i64 d]] w fun e w' => e = .returned (.tuple #[.agg #[.int .i64 0, .int .i64 0], .bool false, .int .i64 1]) ∧ Grown w w' := by
  have H := Lib.hid h
  clear h
  go_enter Try.func20, Try.ntmps20
  go_wp2_with fail
  refine (refBoth_no _ _ _ _ _ H.out).mono ?_
  rintro e w1 ⟨rfl, g1⟩
  obtain ⟨c1, f1, z1⟩ := laid g1
  try simp at z1
  have G1 : Grown w w1 := Grown.trans (by go_grown) g1
  clear g1
  have z1_0 : w.heap.size < w1.heap.size := by omega
  have z1_1 : w.heap.size + 1 < w1.heap.size := by omega
  have z1_2 : w.heap.size + 1 + 1 < w1.heap.size := by omega
  go_wp2_with fail
  refine bodyPost_ret (v := .tuple #[.agg #[.int .i64 0, .int .i64 0], .bool false, .int .i64 1]) (by simp [results, Try.results20, go_sem, *]) rfl ⟨rfl, by go_grown⟩

theorem refMeet_ok (a b c d : Int) (w : World) (h : Vd a b ∧ Vd c d) (k : mx a c ≤ mn b d) : Calls Try.prog 20 #[.agg #[.int .i64 a, .int .i64 b], .agg #[.int .i64 c, .int .i64 d]] w fun e w' => e = .returned (.tuple #[.agg #[.int .i64 (mx a c), .int .i64 (mn b d)], .bool true, .int .i64 0]) ∧ Grown w w' := by
  have H := Lib.hid h
  clear h
  rcases mx_cases a c with ⟨p, p'⟩ | ⟨p, p'⟩ <;> rcases mn_cases b d with ⟨q, q'⟩ | ⟨q, q'⟩ <;> rw [p', q'] at k ⊢ <;> clear p' q'
  · go_enter Try.func20, Try.ntmps20
    go_wp2_with fail
    refine (refBoth_yes _ _ _ _ _ H.out).mono ?_
    rintro e w1 ⟨rfl, g1⟩
    obtain ⟨c1, f1, z1⟩ := laid g1
    try simp at z1
    have G1 : Grown w w1 := Grown.trans (by go_grown) g1
    clear g1
    have z1_0 : w.heap.size < w1.heap.size := by omega
    have z1_1 : w.heap.size + 1 < w1.heap.size := by omega
    have z1_2 : w.heap.size + 1 + 1 < w1.heap.size := by omega
    go_wp2_with fail
    refine bodyPost_ret (v := .tuple #[.agg #[.int .i64 c, .int .i64 d], .bool true, .int .i64 0]) (by simp [results, Try.results20, go_sem, *]) rfl ⟨rfl, by go_grown⟩
  · go_enter Try.func20, Try.ntmps20
    go_wp2_with fail
    refine (refBoth_yes _ _ _ _ _ H.out).mono ?_
    rintro e w1 ⟨rfl, g1⟩
    obtain ⟨c1, f1, z1⟩ := laid g1
    try simp at z1
    have G1 : Grown w w1 := Grown.trans (by go_grown) g1
    clear g1
    have z1_0 : w.heap.size < w1.heap.size := by omega
    have z1_1 : w.heap.size + 1 < w1.heap.size := by omega
    have z1_2 : w.heap.size + 1 + 1 < w1.heap.size := by omega
    go_wp2_with fail
    refine bodyPost_ret (v := .tuple #[.agg #[.int .i64 c, .int .i64 b], .bool true, .int .i64 0]) (by simp [results, Try.results20, go_sem, *]) rfl ⟨rfl, by go_grown⟩
  · go_enter Try.func20, Try.ntmps20
    go_wp2_with fail
    refine (refBoth_yes _ _ _ _ _ H.out).mono ?_
    rintro e w1 ⟨rfl, g1⟩
    obtain ⟨c1, f1, z1⟩ := laid g1
    try simp at z1
    have G1 : Grown w w1 := Grown.trans (by go_grown) g1
    clear g1
    have z1_0 : w.heap.size < w1.heap.size := by omega
    have z1_1 : w.heap.size + 1 < w1.heap.size := by omega
    have z1_2 : w.heap.size + 1 + 1 < w1.heap.size := by omega
    go_wp2_with fail
    refine bodyPost_ret (v := .tuple #[.agg #[.int .i64 a, .int .i64 d], .bool true, .int .i64 0]) (by simp [results, Try.results20, go_sem, *]) rfl ⟨rfl, by go_grown⟩
  · go_enter Try.func20, Try.ntmps20
    go_wp2_with fail
    refine (refBoth_yes _ _ _ _ _ H.out).mono ?_
    rintro e w1 ⟨rfl, g1⟩
    obtain ⟨c1, f1, z1⟩ := laid g1
    try simp at z1
    have G1 : Grown w w1 := Grown.trans (by go_grown) g1
    clear g1
    have z1_0 : w.heap.size < w1.heap.size := by omega
    have z1_1 : w.heap.size + 1 < w1.heap.size := by omega
    have z1_2 : w.heap.size + 1 + 1 < w1.heap.size := by omega
    go_wp2_with fail
    refine bodyPost_ret (v := .tuple #[.agg #[.int .i64 a, .int .i64 b], .bool true, .int .i64 0]) (by simp [results, Try.results20, go_sem, *]) rfl ⟨rfl, by go_grown⟩

theorem refMeet_none (a b c d : Int) (w : World) (h : Vd a b ∧ Vd c d) (k : mn b d < mx a c) : Calls Try.prog 20 #[.agg #[.int .i64 a, .int .i64 b], .agg #[.int .i64 c, .int .i64 d]] w fun e w' => e = .returned (.tuple #[.agg #[.int .i64 0, .int .i64 0], .bool false, .int .i64 0]) ∧ Grown w w' := by
  have H := Lib.hid h
  clear h
  rcases mx_cases a c with ⟨p, p'⟩ | ⟨p, p'⟩ <;> rcases mn_cases b d with ⟨q, q'⟩ | ⟨q, q'⟩ <;> rw [p', q'] at k <;> clear p' q'
  · go_enter Try.func20, Try.ntmps20
    go_wp2_with fail
    refine (refBoth_yes _ _ _ _ _ H.out).mono ?_
    rintro e w1 ⟨rfl, g1⟩
    obtain ⟨c1, f1, z1⟩ := laid g1
    try simp at z1
    have G1 : Grown w w1 := Grown.trans (by go_grown) g1
    clear g1
    have z1_0 : w.heap.size < w1.heap.size := by omega
    have z1_1 : w.heap.size + 1 < w1.heap.size := by omega
    have z1_2 : w.heap.size + 1 + 1 < w1.heap.size := by omega
    go_wp2_with fail
    refine bodyPost_ret (v := .tuple #[.agg #[.int .i64 0, .int .i64 0], .bool false, .int .i64 0]) (by simp [results, Try.results20, go_sem, *]) rfl ⟨rfl, by go_grown⟩
  · go_enter Try.func20, Try.ntmps20
    go_wp2_with fail
    refine (refBoth_yes _ _ _ _ _ H.out).mono ?_
    rintro e w1 ⟨rfl, g1⟩
    obtain ⟨c1, f1, z1⟩ := laid g1
    try simp at z1
    have G1 : Grown w w1 := Grown.trans (by go_grown) g1
    clear g1
    have z1_0 : w.heap.size < w1.heap.size := by omega
    have z1_1 : w.heap.size + 1 < w1.heap.size := by omega
    have z1_2 : w.heap.size + 1 + 1 < w1.heap.size := by omega
    go_wp2_with fail
    refine bodyPost_ret (v := .tuple #[.agg #[.int .i64 0, .int .i64 0], .bool false, .int .i64 0]) (by simp [results, Try.results20, go_sem, *]) rfl ⟨rfl, by go_grown⟩
  · go_enter Try.func20, Try.ntmps20
    go_wp2_with fail
    refine (refBoth_yes _ _ _ _ _ H.out).mono ?_
    rintro e w1 ⟨rfl, g1⟩
    obtain ⟨c1, f1, z1⟩ := laid g1
    try simp at z1
    have G1 : Grown w w1 := Grown.trans (by go_grown) g1
    clear g1
    have z1_0 : w.heap.size < w1.heap.size := by omega
    have z1_1 : w.heap.size + 1 < w1.heap.size := by omega
    have z1_2 : w.heap.size + 1 + 1 < w1.heap.size := by omega
    go_wp2_with fail
    refine bodyPost_ret (v := .tuple #[.agg #[.int .i64 0, .int .i64 0], .bool false, .int .i64 0]) (by simp [results, Try.results20, go_sem, *]) rfl ⟨rfl, by go_grown⟩
  · go_enter Try.func20, Try.ntmps20
    go_wp2_with fail
    refine (refBoth_yes _ _ _ _ _ H.out).mono ?_
    rintro e w1 ⟨rfl, g1⟩
    obtain ⟨c1, f1, z1⟩ := laid g1
    try simp at z1
    have G1 : Grown w w1 := Grown.trans (by go_grown) g1
    clear g1
    have z1_0 : w.heap.size < w1.heap.size := by omega
    have z1_1 : w.heap.size + 1 < w1.heap.size := by omega
    have z1_2 : w.heap.size + 1 + 1 < w1.heap.size := by omega
    go_wp2_with fail
    refine bodyPost_ret (v := .tuple #[.agg #[.int .i64 0, .int .i64 0], .bool false, .int .i64 0]) (by simp [results, Try.results20, go_sem, *]) rfl ⟨rfl, by go_grown⟩

theorem refFloor_any (n : Int) (w : World) (h : -1000000000000000000 ≤ n ∧ n ≤ 1000000000000000000) : Calls Try.prog 28 #[.int .i64 n, .int .i64 1000] w fun e w' => e = .returned (.int .i64 (d1000 n)) ∧ w = w' := by
  obtain ⟨h0, h1⟩ := h
  by_cases p : 0 ≤ n
  · have H : Hid (d1000 n = n / 1000) := Lib.hid rfl
    have q : 0 ≤ n % 1000 := by omega
    go_enter Try.func28, Try.ntmps28
    go_wp2_with fail
    go_ret
    exact ⟨by rw [H.out]; first | rfl | (simp; omega), rfl⟩

  · obtain ⟨e1, e2⟩ := cut1000 (show n < 0 by omega)
    have b1 : -1000000000000000000 ≤ n.tdiv 1000 := by omega
    have b2 : n.tdiv 1000 ≤ 0 := by omega
    by_cases q : n % 1000 = 0
    · have H : Hid (d1000 n = n.tdiv 1000) := Lib.hid (by unfold d1000; omega)
      have t : 0 ≤ n.tmod 1000 := by omega
      have p' : n < 0 := by omega
      clear e1 e2 p q
      go_enter Try.func28, Try.ntmps28
      go_wp2_with fail
      go_ret
      exact ⟨by rw [H.out]; first | rfl | (simp; omega), rfl⟩

    · have H : Hid (d1000 n = n.tdiv 1000 - 1) := Lib.hid (by unfold d1000; omega)
      have t : n.tmod 1000 < 0 := by omega
      have p' : n < 0 := by omega
      clear e1 e2 p q
      go_enter Try.func28, Try.ntmps28
      go_wp2_with fail
      go_ret
      exact ⟨by rw [H.out]; first | rfl | (simp; omega), rfl⟩

theorem refCeil_any (n : Int) (w : World) (h : -1000000000000000000 ≤ n ∧ n ≤ 1000000000000000000) : Calls Try.prog 29 #[.int .i64 n, .int .i64 1000] w fun e w' => e = .returned (.int .i64 (u1000 n)) ∧ w = w' := by
  have H : Hid (-1000000000000000000 ≤ -n ∧ -n ≤ 1000000000000000000) := Lib.hid (by omega)
  obtain ⟨h0, h1⟩ := h
  have b1 : -1000000000000000000 ≤ d1000 (-n) := by unfold d1000; omega
  have b2 : d1000 (-n) ≤ 1000000000000000000 := by unfold d1000; omega
  go_enter Try.func29, Try.ntmps29
  go_wp2_with fail
  refine (refFloor_any _ _ H.out).mono ?_
  rintro e w' ⟨rfl, rfl⟩
  go_wp2_with fail
  go_ret
  exact ⟨rfl, rfl⟩

theorem refParts_yes (c d : Int) (w : World) (h : Pa c d) : Calls Try.prog 27 #[.agg #[.int .i64 c, .int .i64 d]] w fun e w' => e = .returned (.bool true) ∧ Grown w w' := by
  obtain ⟨h, h0, h1⟩ := h
  have H := Lib.hid h
  clear h
  go_enter Try.func27, Try.ntmps27
  go_wp2_with fail
  refine (refValid_yes _ _ _ H.out).mono ?_
  rintro e w1 ⟨rfl, g1⟩
  obtain ⟨c1, f1, z1⟩ := laid g1
  try simp at z1
  have G1 : Grown w w1 := Grown.trans (by go_grown) g1
  clear g1
  have z1_0 : w.heap.size < w1.heap.size := by omega
  go_wp2_with fail
  go_ret
  exact ⟨by first | rfl | (simp; omega), by go_grown⟩

theorem refParts_no (c d : Int) (w : World) (h : ¬ Pa c d) : Calls Try.prog 27 #[.agg #[.int .i64 c, .int .i64 d]] w fun e w' => e = .returned (.bool false) ∧ Grown w w' := by
  by_cases v : Vd c d
  · have H := Lib.hid v
    by_cases h0 : 0 ≤ c
    · have h1 : 1000000 < d := by
        by_cases h1 : d ≤ 1000000
        · exact absurd ⟨v, h0, h1⟩ h
        · omega
      clear h v
      go_enter Try.func27, Try.ntmps27
      go_wp2_with fail
      refine (refValid_yes _ _ _ H.out).mono ?_
      rintro e w1 ⟨rfl, g1⟩
      obtain ⟨c1, f1, z1⟩ := laid g1
      try simp at z1
      have G1 : Grown w w1 := Grown.trans (by go_grown) g1
      clear g1
      have z1_0 : w.heap.size < w1.heap.size := by omega
      go_wp2_with fail
      go_ret
      exact ⟨by first | rfl | (simp; omega), by go_grown⟩

    · have h1 : c < 0 := by omega
      clear h v h0
      go_enter Try.func27, Try.ntmps27
      go_wp2_with fail
      refine (refValid_yes _ _ _ H.out).mono ?_
      rintro e w1 ⟨rfl, g1⟩
      obtain ⟨c1, f1, z1⟩ := laid g1
      try simp at z1
      have G1 : Grown w w1 := Grown.trans (by go_grown) g1
      clear g1
      have z1_0 : w.heap.size < w1.heap.size := by omega
      go_wp2_with fail
      go_ret
      exact ⟨by first | rfl | (simp; omega), by go_grown⟩

  · have H := Lib.hid v
    clear h v
    go_enter Try.func27, Try.ntmps27
    go_wp2_with fail
    refine (refValid_no _ _ _ H.out).mono ?_
    rintro e w1 ⟨rfl, g1⟩
    obtain ⟨c1, f1, z1⟩ := laid g1
    try simp at z1
    have G1 : Grown w w1 := Grown.trans (by go_grown) g1
    clear g1
    have z1_0 : w.heap.size < w1.heap.size := by omega
    go_wp2_with fail
    go_ret
    exact ⟨by first | rfl | (simp; omega), by go_grown⟩

theorem refTimes_bad (a b c d : Int) (w : World) (h : ¬ (Vd a b ∧ Pa c d)) : Calls Try.prog 24 #[.agg #[.int .i64 a, .int .i64 b], .agg #[.int .i64 c, .int .i64 d]] w fun e w' => e = .returned (.tuple #[.agg #[.int .i64 0, .int .i64 0], .int .i64 1]) ∧ Grown w w' := by
  by_cases v : Vd a b
  · have H1 := Lib.hid v
    have H2 : Hid (¬ Pa c d) := Lib.hid (fun p => h ⟨v, p⟩)
    clear h v
    go_enter Try.func24, Try.ntmps24
    go_wp2_with fail
    refine (refValid_yes _ _ _ H1.out).mono ?_
    rintro e w1 ⟨rfl, g1⟩
    obtain ⟨c1, f1, z1⟩ := laid g1
    try simp at z1
    have G1 : Grown w w1 := Grown.trans (by go_grown) g1
    clear g1
    have z1_0 : w.heap.size < w1.heap.size := by omega
    have z1_1 : w.heap.size + 1 < w1.heap.size := by omega
    have z1_2 : w.heap.size + 1 + 1 < w1.heap.size := by omega
    go_wp2_with fail
    refine (refParts_no _ _ _ H2.out).mono ?_
    rintro e w2 ⟨rfl, g2⟩
    obtain ⟨c2, f2, z2⟩ := laid g2
    try simp at z2
    have G2 : Grown w w2 := Grown.trans (by go_grown) g2
    clear g2
    have z2_0 : w.heap.size < w2.heap.size := by omega
    have z2_1 : w.heap.size + 1 < w2.heap.size := by omega
    have z2_2 : w.heap.size + 1 + 1 < w2.heap.size := by omega
    go_wp2_with fail
    refine bodyPost_ret (v := .tuple #[.agg #[.int .i64 0, .int .i64 0], .int .i64 1]) (by simp [results, Try.results24, go_sem, *]) rfl ⟨rfl, by go_grown⟩

  · have H1 := Lib.hid v
    clear h
    by_cases p : Pa c d
    · have H2 := Lib.hid p
      clear v p
      go_enter Try.func24, Try.ntmps24
      go_wp2_with fail
      refine (refValid_no _ _ _ H1.out).mono ?_
      rintro e w1 ⟨rfl, g1⟩
      obtain ⟨c1, f1, z1⟩ := laid g1
      try simp at z1
      have G1 : Grown w w1 := Grown.trans (by go_grown) g1
      clear g1
      have z1_0 : w.heap.size < w1.heap.size := by omega
      have z1_1 : w.heap.size + 1 < w1.heap.size := by omega
      have z1_2 : w.heap.size + 1 + 1 < w1.heap.size := by omega
      go_wp2_with fail
      refine (refParts_yes _ _ _ H2.out).mono ?_
      rintro e w2 ⟨rfl, g2⟩
      obtain ⟨c2, f2, z2⟩ := laid g2
      try simp at z2
      have G2 : Grown w w2 := Grown.trans (by go_grown) g2
      clear g2
      have z2_0 : w.heap.size < w2.heap.size := by omega
      have z2_1 : w.heap.size + 1 < w2.heap.size := by omega
      have z2_2 : w.heap.size + 1 + 1 < w2.heap.size := by omega
      go_wp2_with fail
      refine bodyPost_ret (v := .tuple #[.agg #[.int .i64 0, .int .i64 0], .int .i64 1]) (by simp [results, Try.results24, go_sem, *]) rfl ⟨rfl, by go_grown⟩

    · have H2 := Lib.hid p
      clear v p
      go_enter Try.func24, Try.ntmps24
      go_wp2_with fail
      refine (refValid_no _ _ _ H1.out).mono ?_
      rintro e w1 ⟨rfl, g1⟩
      obtain ⟨c1, f1, z1⟩ := laid g1
      try simp at z1
      have G1 : Grown w w1 := Grown.trans (by go_grown) g1
      clear g1
      have z1_0 : w.heap.size < w1.heap.size := by omega
      have z1_1 : w.heap.size + 1 < w1.heap.size := by omega
      have z1_2 : w.heap.size + 1 + 1 < w1.heap.size := by omega
      go_wp2_with fail
      refine (refParts_no _ _ _ H2.out).mono ?_
      rintro e w2 ⟨rfl, g2⟩
      obtain ⟨c2, f2, z2⟩ := laid g2
      try simp at z2
      have G2 : Grown w w2 := Grown.trans (by go_grown) g2
      clear g2
      have z2_0 : w.heap.size < w2.heap.size := by omega
      have z2_1 : w.heap.size + 1 < w2.heap.size := by omega
      have z2_2 : w.heap.size + 1 + 1 < w2.heap.size := by omega
      go_wp2_with fail
      refine bodyPost_ret (v := .tuple #[.agg #[.int .i64 0, .int .i64 0], .int .i64 1]) (by simp [results, Try.results24, go_sem, *]) rfl ⟨rfl, by go_grown⟩


set_option maxHeartbeats 400000 in
theorem refTimes_ok (a b c d : Int) (w : World) (h : Vd a b ∧ Pa c d) (k : Vd (d1000 (mn (a * c) (a * d))) (u1000 (mx (b * c) (b * d)))) : Calls Try.prog 24 #[.agg #[.int .i64 a, .int .i64 b], .agg #[.int .i64 c, .int .i64 d]] w fun e w' => e = .returned (.tuple #[.agg #[.int .i64 (d1000 (mn (a * c) (a * d))), .int .i64 (u1000 (mx (b * c) (b * d)))], .int .i64 0]) ∧ Grown w w' := by
  have H1 := Lib.hid h.1
  have H2 := Lib.hid h.2
  obtain ⟨⟨a0, ab, b0⟩, ⟨_, c0, d0⟩⟩ := h
  have cd : c ≤ d := H2.out.1.2.1
  obtain ⟨p0, p1⟩ := mul_bd (n := a) (a := c) ⟨by omega, by omega⟩ ⟨by omega, by omega⟩
  obtain ⟨p2, p3⟩ := mul_bd (n := a) (a := d) ⟨by omega, by omega⟩ ⟨by omega, by omega⟩
  obtain ⟨p4, p5⟩ := mul_bd (n := b) (a := c) ⟨by omega, by omega⟩ ⟨by omega, by omega⟩
  obtain ⟨p6, p7⟩ := mul_bd (n := b) (a := d) ⟨by omega, by omega⟩ ⟨by omega, by omega⟩
  rcases mn_cases (a * c) (a * d) with ⟨p, p'⟩ | ⟨p, p'⟩ <;> rcases mx_cases (b * c) (b * d) with ⟨q, q'⟩ | ⟨q, q'⟩ <;> rw [p', q'] at k ⊢ <;> clear p' q' <;> have K := Lib.hid k <;> clear k
  · go_enter Try.func24, Try.ntmps24
    go_wp2_with fail
    refine (refValid_yes _ _ _ H1.out).mono ?_
    rintro e w1 ⟨rfl, g1⟩
    obtain ⟨c1, f1, z1⟩ := laid g1
    try simp at z1
    have G1 : Grown w w1 := Grown.trans (by go_grown) g1
    clear g1
    have z1_0 : w.heap.size < w1.heap.size := by omega
    have z1_1 : w.heap.size + 1 < w1.heap.size := by omega
    have z1_2 : w.heap.size + 1 + 1 < w1.heap.size := by omega
    go_wp2_with fail
    refine (refParts_yes _ _ _ H2.out).mono ?_
    rintro e w2 ⟨rfl, g2⟩
    obtain ⟨c2, f2, z2⟩ := laid g2
    try simp at z2
    have G2 : Grown w w2 := Grown.trans (by go_grown) g2
    clear g2
    have z2_0 : w.heap.size < w2.heap.size := by omega
    have z2_1 : w.heap.size + 1 < w2.heap.size := by omega
    have z2_2 : w.heap.size + 1 + 1 < w2.heap.size := by omega
    go_wp2_with fail
    refine (refFloor_any _ _ ⟨by omega, by omega⟩).mono ?_
    rintro e w' ⟨rfl, rfl⟩
    go_wp2_with fail
    refine (refCeil_any _ _ ⟨by omega, by omega⟩).mono ?_
    rintro e w' ⟨rfl, rfl⟩
    go_wp2_with fail
    refine (refResult_yes _ _ _ K.out).mono ?_
    rintro e w3 ⟨rfl, g3⟩
    obtain ⟨c3, f3, z3⟩ := laid g3
    try simp at z3
    have G3 : Grown w w3 := Grown.trans (by go_grown) g3
    clear g3
    have z3_0 : w.heap.size < w3.heap.size := by omega
    have z3_1 : w.heap.size + 1 < w3.heap.size := by omega
    have z3_2 : w.heap.size + 1 + 1 < w3.heap.size := by omega
    go_wp2_with fail
    refine bodyPost_ret (v := .tuple #[.agg #[.int .i64 (d1000 (a * d)), .int .i64 (u1000 (b * d))], .int .i64 0]) (by simp [results, Try.results24, go_sem, *]) rfl ⟨rfl, by go_grown⟩
  · go_enter Try.func24, Try.ntmps24
    go_wp2_with fail
    refine (refValid_yes _ _ _ H1.out).mono ?_
    rintro e w1 ⟨rfl, g1⟩
    obtain ⟨c1, f1, z1⟩ := laid g1
    try simp at z1
    have G1 : Grown w w1 := Grown.trans (by go_grown) g1
    clear g1
    have z1_0 : w.heap.size < w1.heap.size := by omega
    have z1_1 : w.heap.size + 1 < w1.heap.size := by omega
    have z1_2 : w.heap.size + 1 + 1 < w1.heap.size := by omega
    go_wp2_with fail
    refine (refParts_yes _ _ _ H2.out).mono ?_
    rintro e w2 ⟨rfl, g2⟩
    obtain ⟨c2, f2, z2⟩ := laid g2
    try simp at z2
    have G2 : Grown w w2 := Grown.trans (by go_grown) g2
    clear g2
    have z2_0 : w.heap.size < w2.heap.size := by omega
    have z2_1 : w.heap.size + 1 < w2.heap.size := by omega
    have z2_2 : w.heap.size + 1 + 1 < w2.heap.size := by omega
    go_wp2_with fail
    refine (refFloor_any _ _ ⟨by omega, by omega⟩).mono ?_
    rintro e w' ⟨rfl, rfl⟩
    go_wp2_with fail
    refine (refCeil_any _ _ ⟨by omega, by omega⟩).mono ?_
    rintro e w' ⟨rfl, rfl⟩
    go_wp2_with fail
    refine (refResult_yes _ _ _ K.out).mono ?_
    rintro e w3 ⟨rfl, g3⟩
    obtain ⟨c3, f3, z3⟩ := laid g3
    try simp at z3
    have G3 : Grown w w3 := Grown.trans (by go_grown) g3
    clear g3
    have z3_0 : w.heap.size < w3.heap.size := by omega
    have z3_1 : w.heap.size + 1 < w3.heap.size := by omega
    have z3_2 : w.heap.size + 1 + 1 < w3.heap.size := by omega
    go_wp2_with fail
    refine bodyPost_ret (v := .tuple #[.agg #[.int .i64 (d1000 (a * d)), .int .i64 (u1000 (b * c))], .int .i64 0]) (by simp [results, Try.results24, go_sem, *]) rfl ⟨rfl, by go_grown⟩
  · go_enter Try.func24, Try.ntmps24
    go_wp2_with fail
    refine (refValid_yes _ _ _ H1.out).mono ?_
    rintro e w1 ⟨rfl, g1⟩
    obtain ⟨c1, f1, z1⟩ := laid g1
    try simp at z1
    have G1 : Grown w w1 := Grown.trans (by go_grown) g1
    clear g1
    have z1_0 : w.heap.size < w1.heap.size := by omega
    have z1_1 : w.heap.size + 1 < w1.heap.size := by omega
    have z1_2 : w.heap.size + 1 + 1 < w1.heap.size := by omega
    go_wp2_with fail
    refine (refParts_yes _ _ _ H2.out).mono ?_
    rintro e w2 ⟨rfl, g2⟩
    obtain ⟨c2, f2, z2⟩ := laid g2
    try simp at z2
    have G2 : Grown w w2 := Grown.trans (by go_grown) g2
    clear g2
    have z2_0 : w.heap.size < w2.heap.size := by omega
    have z2_1 : w.heap.size + 1 < w2.heap.size := by omega
    have z2_2 : w.heap.size + 1 + 1 < w2.heap.size := by omega
    go_wp2_with fail
    refine (refFloor_any _ _ ⟨by omega, by omega⟩).mono ?_
    rintro e w' ⟨rfl, rfl⟩
    go_wp2_with fail
    refine (refCeil_any _ _ ⟨by omega, by omega⟩).mono ?_
    rintro e w' ⟨rfl, rfl⟩
    go_wp2_with fail
    refine (refResult_yes _ _ _ K.out).mono ?_
    rintro e w3 ⟨rfl, g3⟩
    obtain ⟨c3, f3, z3⟩ := laid g3
    try simp at z3
    have G3 : Grown w w3 := Grown.trans (by go_grown) g3
    clear g3
    have z3_0 : w.heap.size < w3.heap.size := by omega
    have z3_1 : w.heap.size + 1 < w3.heap.size := by omega
    have z3_2 : w.heap.size + 1 + 1 < w3.heap.size := by omega
    go_wp2_with fail
    refine bodyPost_ret (v := .tuple #[.agg #[.int .i64 (d1000 (a * c)), .int .i64 (u1000 (b * d))], .int .i64 0]) (by simp [results, Try.results24, go_sem, *]) rfl ⟨rfl, by go_grown⟩
  · go_enter Try.func24, Try.ntmps24
    go_wp2_with fail
    refine (refValid_yes _ _ _ H1.out).mono ?_
    rintro e w1 ⟨rfl, g1⟩
    obtain ⟨c1, f1, z1⟩ := laid g1
    try simp at z1
    have G1 : Grown w w1 := Grown.trans (by go_grown) g1
    clear g1
    have z1_0 : w.heap.size < w1.heap.size := by omega
    have z1_1 : w.heap.size + 1 < w1.heap.size := by omega
    have z1_2 : w.heap.size + 1 + 1 < w1.heap.size := by omega
    go_wp2_with fail
    refine (refParts_yes _ _ _ H2.out).mono ?_
    rintro e w2 ⟨rfl, g2⟩
    obtain ⟨c2, f2, z2⟩ := laid g2
    try simp at z2
    have G2 : Grown w w2 := Grown.trans (by go_grown) g2
    clear g2
    have z2_0 : w.heap.size < w2.heap.size := by omega
    have z2_1 : w.heap.size + 1 < w2.heap.size := by omega
    have z2_2 : w.heap.size + 1 + 1 < w2.heap.size := by omega
    go_wp2_with fail
    refine (refFloor_any _ _ ⟨by omega, by omega⟩).mono ?_
    rintro e w' ⟨rfl, rfl⟩
    go_wp2_with fail
    refine (refCeil_any _ _ ⟨by omega, by omega⟩).mono ?_
    rintro e w' ⟨rfl, rfl⟩
    go_wp2_with fail
    refine (refResult_yes _ _ _ K.out).mono ?_
    rintro e w3 ⟨rfl, g3⟩
    obtain ⟨c3, f3, z3⟩ := laid g3
    try simp at z3
    have G3 : Grown w w3 := Grown.trans (by go_grown) g3
    clear g3
    have z3_0 : w.heap.size < w3.heap.size := by omega
    have z3_1 : w.heap.size + 1 < w3.heap.size := by omega
    have z3_2 : w.heap.size + 1 + 1 < w3.heap.size := by omega
    go_wp2_with fail
    refine bodyPost_ret (v := .tuple #[.agg #[.int .i64 (d1000 (a * c)), .int .i64 (u1000 (b * c))], .int .i64 0]) (by simp [results, Try.results24, go_sem, *]) rfl ⟨rfl, by go_grown⟩

set_option maxHeartbeats 400000 in
theorem refTimes_range (a b c d : Int) (w : World) (h : Vd a b ∧ Pa c d) (k : ¬ Vd (d1000 (mn (a * c) (a * d))) (u1000 (mx (b * c) (b * d)))) : Calls Try.prog 24 #[.agg #[.int .i64 a, .int .i64 b], .agg #[.int .i64 c, .int .i64 d]] w fun e w' => e = .returned (.tuple #[.agg #[.int .i64 0, .int .i64 0], .int .i64 3]) ∧ Grown w w' := by
  have H1 := Lib.hid h.1
  have H2 := Lib.hid h.2
  obtain ⟨⟨a0, ab, b0⟩, ⟨_, c0, d0⟩⟩ := h
  have cd : c ≤ d := H2.out.1.2.1
  obtain ⟨p0, p1⟩ := mul_bd (n := a) (a := c) ⟨by omega, by omega⟩ ⟨by omega, by omega⟩
  obtain ⟨p2, p3⟩ := mul_bd (n := a) (a := d) ⟨by omega, by omega⟩ ⟨by omega, by omega⟩
  obtain ⟨p4, p5⟩ := mul_bd (n := b) (a := c) ⟨by omega, by omega⟩ ⟨by omega, by omega⟩
  obtain ⟨p6, p7⟩ := mul_bd (n := b) (a := d) ⟨by omega, by omega⟩ ⟨by omega, by omega⟩
  rcases mn_cases (a * c) (a * d) with ⟨p, p'⟩ | ⟨p, p'⟩ <;> rcases mx_cases (b * c) (b * d) with ⟨q, q'⟩ | ⟨q, q'⟩ <;> rw [p', q'] at k <;> clear p' q' <;> have K := Lib.hid k <;> clear k
  · go_enter Try.func24, Try.ntmps24
    go_wp2_with fail
    refine (refValid_yes _ _ _ H1.out).mono ?_
    rintro e w1 ⟨rfl, g1⟩
    obtain ⟨c1, f1, z1⟩ := laid g1
    try simp at z1
    have G1 : Grown w w1 := Grown.trans (by go_grown) g1
    clear g1
    have z1_0 : w.heap.size < w1.heap.size := by omega
    have z1_1 : w.heap.size + 1 < w1.heap.size := by omega
    have z1_2 : w.heap.size + 1 + 1 < w1.heap.size := by omega
    go_wp2_with fail
    refine (refParts_yes _ _ _ H2.out).mono ?_
    rintro e w2 ⟨rfl, g2⟩
    obtain ⟨c2, f2, z2⟩ := laid g2
    try simp at z2
    have G2 : Grown w w2 := Grown.trans (by go_grown) g2
    clear g2
    have z2_0 : w.heap.size < w2.heap.size := by omega
    have z2_1 : w.heap.size + 1 < w2.heap.size := by omega
    have z2_2 : w.heap.size + 1 + 1 < w2.heap.size := by omega
    go_wp2_with fail
    refine (refFloor_any _ _ ⟨by omega, by omega⟩).mono ?_
    rintro e w' ⟨rfl, rfl⟩
    go_wp2_with fail
    refine (refCeil_any _ _ ⟨by omega, by omega⟩).mono ?_
    rintro e w' ⟨rfl, rfl⟩
    go_wp2_with fail
    refine (refResult_no _ _ _ K.out).mono ?_
    rintro e w3 ⟨rfl, g3⟩
    obtain ⟨c3, f3, z3⟩ := laid g3
    try simp at z3
    have G3 : Grown w w3 := Grown.trans (by go_grown) g3
    clear g3
    have z3_0 : w.heap.size < w3.heap.size := by omega
    have z3_1 : w.heap.size + 1 < w3.heap.size := by omega
    have z3_2 : w.heap.size + 1 + 1 < w3.heap.size := by omega
    go_wp2_with fail
    refine bodyPost_ret (v := .tuple #[.agg #[.int .i64 0, .int .i64 0], .int .i64 3]) (by simp [results, Try.results24, go_sem, *]) rfl ⟨rfl, by go_grown⟩
  · go_enter Try.func24, Try.ntmps24
    go_wp2_with fail
    refine (refValid_yes _ _ _ H1.out).mono ?_
    rintro e w1 ⟨rfl, g1⟩
    obtain ⟨c1, f1, z1⟩ := laid g1
    try simp at z1
    have G1 : Grown w w1 := Grown.trans (by go_grown) g1
    clear g1
    have z1_0 : w.heap.size < w1.heap.size := by omega
    have z1_1 : w.heap.size + 1 < w1.heap.size := by omega
    have z1_2 : w.heap.size + 1 + 1 < w1.heap.size := by omega
    go_wp2_with fail
    refine (refParts_yes _ _ _ H2.out).mono ?_
    rintro e w2 ⟨rfl, g2⟩
    obtain ⟨c2, f2, z2⟩ := laid g2
    try simp at z2
    have G2 : Grown w w2 := Grown.trans (by go_grown) g2
    clear g2
    have z2_0 : w.heap.size < w2.heap.size := by omega
    have z2_1 : w.heap.size + 1 < w2.heap.size := by omega
    have z2_2 : w.heap.size + 1 + 1 < w2.heap.size := by omega
    go_wp2_with fail
    refine (refFloor_any _ _ ⟨by omega, by omega⟩).mono ?_
    rintro e w' ⟨rfl, rfl⟩
    go_wp2_with fail
    refine (refCeil_any _ _ ⟨by omega, by omega⟩).mono ?_
    rintro e w' ⟨rfl, rfl⟩
    go_wp2_with fail
    refine (refResult_no _ _ _ K.out).mono ?_
    rintro e w3 ⟨rfl, g3⟩
    obtain ⟨c3, f3, z3⟩ := laid g3
    try simp at z3
    have G3 : Grown w w3 := Grown.trans (by go_grown) g3
    clear g3
    have z3_0 : w.heap.size < w3.heap.size := by omega
    have z3_1 : w.heap.size + 1 < w3.heap.size := by omega
    have z3_2 : w.heap.size + 1 + 1 < w3.heap.size := by omega
    go_wp2_with fail
    refine bodyPost_ret (v := .tuple #[.agg #[.int .i64 0, .int .i64 0], .int .i64 3]) (by simp [results, Try.results24, go_sem, *]) rfl ⟨rfl, by go_grown⟩
  · go_enter Try.func24, Try.ntmps24
    go_wp2_with fail
    refine (refValid_yes _ _ _ H1.out).mono ?_
    rintro e w1 ⟨rfl, g1⟩
    obtain ⟨c1, f1, z1⟩ := laid g1
    try simp at z1
    have G1 : Grown w w1 := Grown.trans (by go_grown) g1
    clear g1
    have z1_0 : w.heap.size < w1.heap.size := by omega
    have z1_1 : w.heap.size + 1 < w1.heap.size := by omega
    have z1_2 : w.heap.size + 1 + 1 < w1.heap.size := by omega
    go_wp2_with fail
    refine (refParts_yes _ _ _ H2.out).mono ?_
    rintro e w2 ⟨rfl, g2⟩
    obtain ⟨c2, f2, z2⟩ := laid g2
    try simp at z2
    have G2 : Grown w w2 := Grown.trans (by go_grown) g2
    clear g2
    have z2_0 : w.heap.size < w2.heap.size := by omega
    have z2_1 : w.heap.size + 1 < w2.heap.size := by omega
    have z2_2 : w.heap.size + 1 + 1 < w2.heap.size := by omega
    go_wp2_with fail
    refine (refFloor_any _ _ ⟨by omega, by omega⟩).mono ?_
    rintro e w' ⟨rfl, rfl⟩
    go_wp2_with fail
    refine (refCeil_any _ _ ⟨by omega, by omega⟩).mono ?_
    rintro e w' ⟨rfl, rfl⟩
    go_wp2_with fail
    refine (refResult_no _ _ _ K.out).mono ?_
    rintro e w3 ⟨rfl, g3⟩
    obtain ⟨c3, f3, z3⟩ := laid g3
    try simp at z3
    have G3 : Grown w w3 := Grown.trans (by go_grown) g3
    clear g3
    have z3_0 : w.heap.size < w3.heap.size := by omega
    have z3_1 : w.heap.size + 1 < w3.heap.size := by omega
    have z3_2 : w.heap.size + 1 + 1 < w3.heap.size := by omega
    go_wp2_with fail
    refine bodyPost_ret (v := .tuple #[.agg #[.int .i64 0, .int .i64 0], .int .i64 3]) (by simp [results, Try.results24, go_sem, *]) rfl ⟨rfl, by go_grown⟩
  · go_enter Try.func24, Try.ntmps24
    go_wp2_with fail
    refine (refValid_yes _ _ _ H1.out).mono ?_
    rintro e w1 ⟨rfl, g1⟩
    obtain ⟨c1, f1, z1⟩ := laid g1
    try simp at z1
    have G1 : Grown w w1 := Grown.trans (by go_grown) g1
    clear g1
    have z1_0 : w.heap.size < w1.heap.size := by omega
    have z1_1 : w.heap.size + 1 < w1.heap.size := by omega
    have z1_2 : w.heap.size + 1 + 1 < w1.heap.size := by omega
    go_wp2_with fail
    refine (refParts_yes _ _ _ H2.out).mono ?_
    rintro e w2 ⟨rfl, g2⟩
    obtain ⟨c2, f2, z2⟩ := laid g2
    try simp at z2
    have G2 : Grown w w2 := Grown.trans (by go_grown) g2
    clear g2
    have z2_0 : w.heap.size < w2.heap.size := by omega
    have z2_1 : w.heap.size + 1 < w2.heap.size := by omega
    have z2_2 : w.heap.size + 1 + 1 < w2.heap.size := by omega
    go_wp2_with fail
    refine (refFloor_any _ _ ⟨by omega, by omega⟩).mono ?_
    rintro e w' ⟨rfl, rfl⟩
    go_wp2_with fail
    refine (refCeil_any _ _ ⟨by omega, by omega⟩).mono ?_
    rintro e w' ⟨rfl, rfl⟩
    go_wp2_with fail
    refine (refResult_no _ _ _ K.out).mono ?_
    rintro e w3 ⟨rfl, g3⟩
    obtain ⟨c3, f3, z3⟩ := laid g3
    try simp at z3
    have G3 : Grown w w3 := Grown.trans (by go_grown) g3
    clear g3
    have z3_0 : w.heap.size < w3.heap.size := by omega
    have z3_1 : w.heap.size + 1 < w3.heap.size := by omega
    have z3_2 : w.heap.size + 1 + 1 < w3.heap.size := by omega
    go_wp2_with fail
    refine bodyPost_ret (v := .tuple #[.agg #[.int .i64 0, .int .i64 0], .int .i64 3]) (by simp [results, Try.results24, go_sem, *]) rfl ⟨rfl, by go_grown⟩

end Sn
end Go.Proofs.Ytpendmjfmhjibaa
