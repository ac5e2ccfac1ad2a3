/-
  The reference implementation of layer 2: Join, Meet, Times.
-/
import Derived.Test.YtndabfpinkakbaaSpanRef
namespace Go.Proofs.Ytndabfpinkakbaa
open Go.RowKit
namespace Sn

theorem refMeet_bad (a b c d : Int) (w : World) (h : ¬ (Vd a b ∧ Vd c d)) : Calls Try.prog 36 #[.agg #[.int .i64 a, .int .i64 b], .agg #[.int .i64 c, .int .i64 d]] w fun e w' => e = .returned (.tuple #[.agg #[.int .i64 0, .int .i64 0], .bool false, .int .i64 1]) ∧ Grown w w' := by
  have H := Lib.hid h
  clear h
  go_enter Try.func36, Try.ntmps36
  go_wp2_with fail
  refine (refBoth_no _ _ _ _ _ H.out).mono ?_
  rintro e w1 ⟨rfl, g1⟩
  obtain ⟨c1, f1, z1⟩ := laid g1
  try simp at z1
  have G1 : Grown w w1 := Grown.trans (by go_grown) g1
  clear g1
  have z1_0 : w.heap.size < w1.heap.size := by omega
  have z1_1 : w.heap.size + 1 < w1.heap.size := by omega
  have z1_2 : w.heap.size + 1 + 1 < w1.heap.size := by omega
  go_wp2_with fail
  refine bodyPost_ret (v := .tuple #[.agg #[.int .i64 0, .int .i64 0], .bool false, .int .i64 1]) (by simp [results, Try.results36, go_sem, *]) rfl ⟨rfl, by go_grown⟩

theorem refMeet_ok (a b c d : Int) (w : World) (h : Vd a b ∧ Vd c d) (k : mx a c ≤ mn b d) : Calls Try.prog 36 #[.agg #[.int .i64 a, .int .i64 b], .agg #[.int .i64 c, .int .i64 d]] w fun e w' => e = .returned (.tuple #[.agg #[.int .i64 (mx a c), .int .i64 (mn b d)], .bool true, .int .i64 0]) ∧ Grown w w' := by
  have H := Lib.hid h
  clear h
  rcases mx_cases a c with ⟨p, p'⟩ | ⟨p, p'⟩ <;> rcases mn_cases b d with ⟨q, q'⟩ | ⟨q, q'⟩ <;> rw [p', q'] at k ⊢ <;> clear p' q'
  · go_enter Try.func36, Try.ntmps36
    go_wp2_with fail
    refine (refBoth_yes _ _ _ _ _ H.out).mono ?_
    rintro e w1 ⟨rfl, g1⟩
    obtain ⟨c1, f1, z1⟩ := laid g1
    try simp at z1
    have G1 : Grown w w1 := Grown.trans (by go_grown) g1
    clear g1
    have z1_0 : w.heap.size < w1.heap.size := by omega
    have z1_1 : w.heap.size + 1 < w1.heap.size := by omega
    have z1_2 : w.heap.size + 1 + 1 < w1.heap.size := by omega
    go_wp2_with fail
    refine bodyPost_ret (v := .tuple #[.agg #[.int .i64 c, .int .i64 d], .bool true, .int .i64 0]) (by simp [results, Try.results36, go_sem, *]) rfl ⟨rfl, by go_grown⟩
  · go_enter Try.func36, Try.ntmps36
    go_wp2_with fail
    refine (refBoth_yes _ _ _ _ _ H.out).mono ?_
    rintro e w1 ⟨rfl, g1⟩
    obtain ⟨c1, f1, z1⟩ := laid g1
    try simp at z1
    have G1 : Grown w w1 := Grown.trans (by go_grown) g1
    clear g1
    have z1_0 : w.heap.size < w1.heap.size := by omega
    have z1_1 : w.heap.size + 1 < w1.heap.size := by omega
    have z1_2 : w.heap.size + 1 + 1 < w1.heap.size := by omega
    go_wp2_with fail
    refine bodyPost_ret (v := .tuple #[.agg #[.int .i64 c, .int .i64 b], .bool true, .int .i64 0]) (by simp [results, Try.results36, go_sem, *]) rfl ⟨rfl, by go_grown⟩
  · go_enter Try.func36, Try.ntmps36
    go_wp2_with fail
    refine (refBoth_yes _ _ _ _ _ H.out).mono ?_
    rintro e w1 ⟨rfl, g1⟩
    obtain ⟨c1, f1, z1⟩ := laid g1
    try simp at z1
    have G1 : Grown w w1 := Grown.trans (by go_grown) g1
    clear g1
    have z1_0 : w.heap.size < w1.heap.size := by omega
    have z1_1 : w.heap.size + 1 < w1.heap.size := by omega
    have z1_2 : w.heap.size + 1 + 1 < w1.heap.size := by omega
    go_wp2_with fail
    refine bodyPost_ret (v := .tuple #[.agg #[.int .i64 a, .int .i64 d], .bool true, .int .i64 0]) (by simp [results, Try.results36, go_sem, *]) rfl ⟨rfl, by go_grown⟩
  · go_enter Try.func36, Try.ntmps36
    go_wp2_with fail
    refine (refBoth_yes _ _ _ _ _ H.out).mono ?_
    rintro e w1 ⟨rfl, g1⟩
    obtain ⟨c1, f1, z1⟩ := laid g1
    try simp at z1
    have G1 : Grown w w1 := Grown.trans (by go_grown) g1
    clear g1
    have z1_0 : w.heap.size < w1.heap.size := by omega
    have z1_1 : w.heap.size + 1 < w1.heap.size := by omega
    have z1_2 : w.heap.size + 1 + 1 < w1.heap.size := by omega
    go_wp2_with fail
    refine bodyPost_ret (v := .tuple #[.agg #[.int .i64 a, .int .i64 b], .bool true, .int .i64 0]) (by simp [results, Try.results36, go_sem, *]) rfl ⟨rfl, by go_grown⟩

theorem refMeet_none (a b c d : Int) (w : World) (h : Vd a b ∧ Vd c d) (k : mn b d < mx a c) : Calls Try.prog 36 #[.agg #[.int .i64 a, .int .i64 b], .agg #[.int .i64 c, .int .i64 d]] w fun e w' => e = .returned (.tuple #[.agg #[.int .i64 0, .int .i64 0], .bool false, .int .i64 0]) ∧ Grown w w' := by
  have H := Lib.hid h
  clear h
  rcases mx_cases a c with ⟨p, p'⟩ | ⟨p, p'⟩ <;> rcases mn_cases b d with ⟨q, q'⟩ | ⟨q, q'⟩ <;> rw [p', q'] at k <;> clear p' q'
  · go_enter Try.func36, Try.ntmps36
    go_wp2_with fail
    refine (refBoth_yes _ _ _ _ _ H.out).mono ?_
    rintro e w1 ⟨rfl, g1⟩
    obtain ⟨c1, f1, z1⟩ := laid g1
    try simp at z1
    have G1 : Grown w w1 := Grown.trans (by go_grown) g1
    clear g1
    have z1_0 : w.heap.size < w1.heap.size := by omega
    have z1_1 : w.heap.size + 1 < w1.heap.size := by omega
    have z1_2 : w.heap.size + 1 + 1 < w1.heap.size := by omega
    go_wp2_with fail
    refine bodyPost_ret (v := .tuple #[.agg #[.int .i64 0, .int .i64 0], .bool false, .int .i64 0]) (by simp [results, Try.results36, go_sem, *]) rfl ⟨rfl, by go_grown⟩
  · go_enter Try.func36, Try.ntmps36
    go_wp2_with fail
    refine (refBoth_yes _ _ _ _ _ H.out).mono ?_
    rintro e w1 ⟨rfl, g1⟩
    obtain ⟨c1, f1, z1⟩ := laid g1
    try simp at z1
    have G1 : Grown w w1 := Grown.trans (by go_grown) g1
    clear g1
    have z1_0 : w.heap.size < w1.heap.size := by omega
    have z1_1 : w.heap.size + 1 < w1.heap.size := by omega
    have z1_2 : w.heap.size + 1 + 1 < w1.heap.size := by omega
    go_wp2_with fail
    refine bodyPost_ret (v := .tuple #[.agg #[.int .i64 0, .int .i64 0], .bool false, .int .i64 0]) (by simp [results, Try.results36, go_sem, *]) rfl ⟨rfl, by go_grown⟩
  · go_enter Try.func36, Try.ntmps36
    go_wp2_with fail
    refine (refBoth_yes _ _ _ _ _ H.out).mono ?_
    rintro e w1 ⟨rfl, g1⟩
    obtain ⟨c1, f1, z1⟩ := laid g1
    try simp at z1
    have G1 : Grown w w1 := Grown.trans (by go_grown) g1
    clear g1
    have z1_0 : w.heap.size < w1.heap.size := by omega
    have z1_1 : w.heap.size + 1 < w1.heap.size := by omega
    have z1_2 : w.heap.size + 1 + 1 < w1.heap.size := by omega
    go_wp2_with fail
    refine bodyPost_ret (v := .tuple #[.agg #[.int .i64 0, .int .i64 0], .bool false, .int .i64 0]) (by simp [results, Try.results36, go_sem, *]) rfl ⟨rfl, by go_grown⟩
  · go_enter Try.func36, Try.ntmps36
    go_wp2_with fail
    refine (refBoth_yes _ _ _ _ _ H.out).mono ?_
    rintro e w1 ⟨rfl, g1⟩
    obtain ⟨c1, f1, z1⟩ := laid g1
    try simp at z1
    have G1 : Grown w w1 := Grown.trans (by go_grown) g1
    clear g1
    have z1_0 : w.heap.size < w1.heap.size := by omega
    have z1_1 : w.heap.size + 1 < w1.heap.size := by omega
    have z1_2 : w.heap.size + 1 + 1 < w1.heap.size := by omega
    go_wp2_with fail
    refine bodyPost_ret (v := .tuple #[.agg #[.int .i64 0, .int .i64 0], .bool false, .int .i64 0]) (by simp [results, Try.results36, go_sem, *]) rfl ⟨rfl, by go_grown⟩

end Sn
end Go.Proofs.Ytndabfpinkakbaa
