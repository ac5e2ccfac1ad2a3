/-
  Package span as it landed: areValid, limited, Has, Add, Sub.
-/
import Derived.Test.YtndabfpinkakbaaSpanCodeA
namespace Go.Proofs.Ytndabfpinkakbaa
open Go.RowKit
namespace Sn
/-- Two spans in a row. -/
def Two (w : World) (bb : Nat) (a b c d : Int) : Prop := bb < w.heap.size ∧ (w.cell? ⟨bb, 0, none⟩ = some (.int .i64 a) ∧ w.cell? ⟨bb, 1, none⟩ = some (.int .i64 b)) ∧ (w.cell? ⟨bb, 2, none⟩ = some (.int .i64 c) ∧ w.cell? ⟨bb, 3, none⟩ = some (.int .i64 d))
theorem Two.grown {w w' : World} {bb : Nat} {a b c d : Int} (h : Two w bb a b c d) (g : Grown w w') : Two w' bb a b c d :=
  ⟨Nat.lt_of_lt_of_le h.1 g.2.2, ⟨(Grown.cell g h.1).trans h.2.1.1, (Grown.cell g h.1).trans h.2.1.2⟩, ⟨(Grown.cell g h.1).trans h.2.2.1, (Grown.cell g h.1).trans h.2.2.2⟩⟩

theorem av_yes (a b c d : Int) (bb cc : Nat) (w : World) (h : Vd a b ∧ Vd c d) (ht : Two w bb a b c d) : Calls Try.prog 38 #[.slice (some ⟨bb, 0, none⟩) 2 cc] w fun e w' => e = .returned (.bool true) ∧ Grown w w' := by
  have HT := Lib.hid ht
  have H := Lib.hid h
  clear h ht
  go_enter Try.func38, Try.ntmps38
  go_wp2_with fail
  go_loopw [7] (fun i wr => ∃ k : Nat, k ≤ 2 ∧ i = .int .i64 k ∧ Grown w wr) (fun i _ => 2 - (intOf i).toNat)
  case atStart => exact ⟨0, Nat.zero_le _, rfl, Grown.refl _⟩
  case round =>
    obtain ⟨k, hk, rfl, G⟩ := hrel
    obtain ⟨hb, ⟨q0, q1⟩, ⟨q2, q3⟩⟩ := HT.out.grown G
    match k, hk with
    | 0, _ =>
      go_wp2_with fail
      refine (spValid_yes _ _ _ H.out.1).mono ?_
      rintro e w1 ⟨rfl, g1⟩
      have G1 : Grown w w1 := Grown.trans (by go_grown) g1
      clear g1
      go_wp2_with fail
      go_roundw
      case rel => exact ⟨1, by omega, by go_num, G1⟩
      case measure => simp [intOf]
    | 1, _ =>
      go_wp2_with fail
      refine (spValid_yes _ _ _ H.out.2).mono ?_
      rintro e w1 ⟨rfl, g1⟩
      have G1 : Grown w w1 := Grown.trans (by go_grown) g1
      clear g1
      go_wp2_with fail
      go_roundw
      case rel => exact ⟨2, by omega, by go_num, G1⟩
      case measure => simp [intOf]
    | 2, _ =>
      go_wp2_with fail
      go_ret
      exact ⟨rfl, G⟩

theorem av_no (a b c d : Int) (bb cc : Nat) (w : World) (h : ¬ (Vd a b ∧ Vd c d)) (ht : Two w bb a b c d) : Calls Try.prog 38 #[.slice (some ⟨bb, 0, none⟩) 2 cc] w fun e w' => e = .returned (.bool false) ∧ Grown w w' := by
  have HT := Lib.hid ht
  by_cases h1 : Vd a b
  · have H1 := Lib.hid h1
    have H2 : Hid (¬ Vd c d) := Lib.hid (fun k => h ⟨h1, k⟩)
    clear h h1 ht
    go_enter Try.func38, Try.ntmps38
    go_wp2_with fail
    go_loopw [7] (fun i wr => ∃ k : Nat, k ≤ 1 ∧ i = .int .i64 k ∧ Grown w wr) (fun i _ => 2 - (intOf i).toNat)
    case atStart => exact ⟨0, Nat.zero_le _, rfl, Grown.refl _⟩
    case round =>
      obtain ⟨k, hk, rfl, G⟩ := hrel
      obtain ⟨hb, ⟨q0, q1⟩, ⟨q2, q3⟩⟩ := HT.out.grown G
      match k, hk with
      | 0, _ =>
        go_wp2_with fail
        refine (spValid_yes _ _ _ H1.out).mono ?_
        rintro e w1 ⟨rfl, g1⟩
        have G1 : Grown w w1 := Grown.trans (by go_grown) g1
        clear g1
        go_wp2_with fail
        go_roundw
        case rel => exact ⟨1, by omega, by go_num, G1⟩
        case measure => simp [intOf]
      | 1, _ =>
        go_wp2_with fail
        refine (spValid_no _ _ _ H2.out).mono ?_
        rintro e w1 ⟨rfl, g1⟩
        have G1 : Grown w w1 := Grown.trans (by go_grown) g1
        clear g1
        go_wp2_with fail
        go_ret
        exact ⟨rfl, G1⟩

  · have H1 := Lib.hid h1
    clear h h1 ht
    go_enter Try.func38, Try.ntmps38
    go_wp2_with fail
    go_loopw [7] (fun i wr => ∃ k : Nat, k ≤ 0 ∧ i = .int .i64 k ∧ Grown w wr) (fun i _ => 2 - (intOf i).toNat)
    case atStart => exact ⟨0, Nat.zero_le _, rfl, Grown.refl _⟩
    case round =>
      obtain ⟨k, hk, rfl, G⟩ := hrel
      obtain ⟨hb, ⟨q0, q1⟩, ⟨q2, q3⟩⟩ := HT.out.grown G
      match k, hk with
      | 0, _ =>
        go_wp2_with fail
        refine (spValid_no _ _ _ H1.out).mono ?_
        rintro e w1 ⟨rfl, g1⟩
        have G1 : Grown w w1 := Grown.trans (by go_grown) g1
        clear g1
        go_wp2_with fail
        go_ret
        exact ⟨rfl, G1⟩


theorem spResult_yes (lo hi : Int) (w : World) (h : Vd lo hi) : Calls Try.prog 47 #[.agg #[.int .i64 lo, .int .i64 hi]] w fun e w' => e = .returned (.tuple #[.agg #[.int .i64 lo, .int .i64 hi], .int .i64 0]) ∧ Grown w w' := by
  have H := Lib.hid h
  clear h
  go_enter Try.func47, Try.ntmps47
  go_wp2_with fail
  refine (spValid_yes _ _ _ H.out).mono ?_
  rintro e w1 ⟨rfl, g1⟩
  obtain ⟨c1, f1, z1⟩ := laid g1
  try simp at z1
  have G1 : Grown w w1 := Grown.trans (by go_grown) g1
  clear g1
  have z1_0 : w.heap.size < w1.heap.size := by omega
  have z1_1 : w.heap.size + 1 < w1.heap.size := by omega
  go_wp2_with fail
  refine bodyPost_ret (v := .tuple #[.agg #[.int .i64 lo, .int .i64 hi], .int .i64 0]) (by simp [results, Try.results47, go_sem, *]) rfl ⟨rfl, by go_grown⟩

theorem spResult_no (lo hi : Int) (w : World) (h : ¬ Vd lo hi) : Calls Try.prog 47 #[.agg #[.int .i64 lo, .int .i64 hi]] w fun e w' => e = .returned (.tuple #[.agg #[.int .i64 0, .int .i64 0], .int .i64 3]) ∧ Grown w w' := by
  have H := Lib.hid h
  clear h
  go_enter Try.func47, Try.ntmps47
  go_wp2_with fail
  refine (spValid_no _ _ _ H.out).mono ?_
  rintro e w1 ⟨rfl, g1⟩
  obtain ⟨c1, f1, z1⟩ := laid g1
  try simp at z1
  have G1 : Grown w w1 := Grown.trans (by go_grown) g1
  clear g1
  have z1_0 : w.heap.size < w1.heap.size := by omega
  have z1_1 : w.heap.size + 1 < w1.heap.size := by omega
  go_wp2_with fail
  refine bodyPost_ret (v := .tuple #[.agg #[.int .i64 0, .int .i64 0], .int .i64 3]) (by simp [results, Try.results47, go_sem, *]) rfl ⟨rfl, by go_grown⟩

end Sn
end Go.Proofs.Ytndabfpinkakbaa
