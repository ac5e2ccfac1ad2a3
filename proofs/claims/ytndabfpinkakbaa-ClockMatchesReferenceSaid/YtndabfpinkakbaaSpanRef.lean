/-
  The reference implementation of layer 2 (span): one contract each.
-/
import Derived.Test.YtndabfpinkakbaaRows
import Derived.WalkKit
import Derived.WalkSpells
import Derived.WalkLawsBesides
import Derived.RowKit3
import Derived.Handy
import Derived.Lib.Hide
import Derived.Deep.QuietTactic
import Derived.BigQuiet
import Derived.Deep.RegionHeld3
namespace Go.Proofs.Ytndabfpinkakbaa
open Go.RowKit
namespace Sn

/-! ### Worlds -/
theorem Grown.trans {a b c : World} (h : Grown a b) (k : Grown b c) : Grown a c := by
  refine ⟨?_, fun x => (k.2.1 x).trans (h.2.1 x), Nat.le_trans h.2.2 k.2.2⟩
  exact World.keptBut_trans h.1 (World.keptBut_mono (fun _ f => f.elim) k.1)
theorem Grown.drewN {W w : World} (h : Grown W w) (n : Nat) : Grown W (w.drewN n) := h
theorem Grown.cell {W w : World} (h : Grown W w) {b o : Nat} (hb : b < W.heap.size) : w.cell? ⟨b, o, none⟩ = W.cell? ⟨b, o, none⟩ :=
  World.keptBut.cell h.1 hb (fun f => f)
theorem laid {W w : World} (h : Grown W w) : (∀ b o, b < W.heap.size → w.cell? ⟨b, o, none⟩ = W.cell? ⟨b, o, none⟩) ∧ (∀ a, w.frozen? a = W.frozen? a) ∧ W.heap.size ≤ w.heap.size :=
  ⟨fun _ _ hb => Grown.cell h hb, h.2.1, h.2.2⟩

/-! ### Validity -/
def Vd (lo hi : Int) : Prop := -1000000000000 ≤ lo ∧ lo ≤ hi ∧ hi ≤ 1000000000000
instance (lo hi : Int) : Decidable (Vd lo hi) := by unfold Vd; infer_instance

theorem refValid_yes (lo hi : Int) (w : World) (h : Vd lo hi) : Calls Try.prog 29 #[.agg #[.int .i64 lo, .int .i64 hi]] w fun e w' => e = .returned (.bool true) ∧ Grown w w' := by
  obtain ⟨h0, h1, h2⟩ := h
  go_enter Try.func29, Try.ntmps29
  go_wp2_with fail
  go_ret
  exact ⟨by first | rfl | (simp; omega), by go_grown⟩

theorem refValid_no (lo hi : Int) (w : World) (h : ¬ Vd lo hi) : Calls Try.prog 29 #[.agg #[.int .i64 lo, .int .i64 hi]] w fun e w' => e = .returned (.bool false) ∧ Grown w w' := by
  by_cases h0 : -1000000000000 ≤ lo
  · by_cases h1 : lo ≤ hi
    · have h2 : 1000000000000 < hi := by
        by_cases h2 : hi ≤ 1000000000000
        · exact absurd ⟨h0, h1, h2⟩ h
        · omega
      clear h
      go_enter Try.func29, Try.ntmps29
      go_wp2_with fail
      go_ret
      exact ⟨by first | rfl | (simp; omega), by go_grown⟩

    · have h1 : hi < lo := by omega
      clear h
      go_enter Try.func29, Try.ntmps29
      go_wp2_with fail
      go_ret
      exact ⟨by first | rfl | (simp; omega), by go_grown⟩

  · have h0 : lo < -1000000000000 := by omega
    clear h
    go_enter Try.func29, Try.ntmps29
    go_wp2_with fail
    go_ret
    exact ⟨by first | rfl | (simp; omega), by go_grown⟩


theorem refBoth_yes (a b c d : Int) (w : World) (h : Vd a b ∧ Vd c d) : Calls Try.prog 48 #[.agg #[.int .i64 a, .int .i64 b], .agg #[.int .i64 c, .int .i64 d]] w fun e w' => e = .returned (.bool true) ∧ Grown w w' := by
  have H := Lib.hid h
  clear h
  go_enter Try.func48, Try.ntmps48
  go_wp2_with fail
  refine (refValid_yes _ _ _ H.out.1).mono ?_
  rintro e w1 ⟨rfl, g1⟩
  obtain ⟨c1, f1, z1⟩ := laid g1
  try simp at z1
  have G1 : Grown w w1 := Grown.trans (by go_grown) g1
  clear g1
  have z1_0 : w.heap.size < w1.heap.size := by omega
  have z1_1 : w.heap.size + 1 < w1.heap.size := by omega
  go_wp2_with fail
  refine (refValid_yes _ _ _ H.out.2).mono ?_
  rintro e w2 ⟨rfl, g2⟩
  obtain ⟨c2, f2, z2⟩ := laid g2
  try simp at z2
  have G2 : Grown w w2 := Grown.trans (by go_grown) g2
  clear g2
  have z2_0 : w.heap.size < w2.heap.size := by omega
  have z2_1 : w.heap.size + 1 < w2.heap.size := by omega
  go_wp2_with fail
  go_ret
  exact ⟨by first | rfl | (simp; omega), by go_grown⟩

theorem refBoth_no (a b c d : Int) (w : World) (h : ¬ (Vd a b ∧ Vd c d)) : Calls Try.prog 48 #[.agg #[.int .i64 a, .int .i64 b], .agg #[.int .i64 c, .int .i64 d]] w fun e w' => e = .returned (.bool false) ∧ Grown w w' := by
  by_cases h1 : Vd a b
  · have H1 := Lib.hid h1
    have H2 : Hid (¬ Vd c d) := Lib.hid (fun h2 => h ⟨h1, h2⟩)
    clear h h1
    go_enter Try.func48, Try.ntmps48
    go_wp2_with fail
    refine (refValid_yes _ _ _ H1.out).mono ?_
    rintro e w1 ⟨rfl, g1⟩
    obtain ⟨c1, f1, z1⟩ := laid g1
    try simp at z1
    have G1 : Grown w w1 := Grown.trans (by go_grown) g1
    clear g1
    have z1_0 : w.heap.size < w1.heap.size := by omega
    have z1_1 : w.heap.size + 1 < w1.heap.size := by omega
    go_wp2_with fail
    refine (refValid_no _ _ _ H2.out).mono ?_
    rintro e w2 ⟨rfl, g2⟩
    obtain ⟨c2, f2, z2⟩ := laid g2
    try simp at z2
    have G2 : Grown w w2 := Grown.trans (by go_grown) g2
    clear g2
    have z2_0 : w.heap.size < w2.heap.size := by omega
    have z2_1 : w.heap.size + 1 < w2.heap.size := by omega
    go_wp2_with fail
    go_ret
    exact ⟨by first | rfl | (simp; omega), by go_grown⟩

  · by_cases h2 : Vd c d
    · have H1 := Lib.hid h1
      have H2 := Lib.hid h2
      clear h h1 h2
      go_enter Try.func48, Try.ntmps48
      go_wp2_with fail
      refine (refValid_no _ _ _ H1.out).mono ?_
      rintro e w1 ⟨rfl, g1⟩
      obtain ⟨c1, f1, z1⟩ := laid g1
      try simp at z1
      have G1 : Grown w w1 := Grown.trans (by go_grown) g1
      clear g1
      have z1_0 : w.heap.size < w1.heap.size := by omega
      have z1_1 : w.heap.size + 1 < w1.heap.size := by omega
      go_wp2_with fail
      refine (refValid_yes _ _ _ H2.out).mono ?_
      rintro e w2 ⟨rfl, g2⟩
      obtain ⟨c2, f2, z2⟩ := laid g2
      try simp at z2
      have G2 : Grown w w2 := Grown.trans (by go_grown) g2
      clear g2
      have z2_0 : w.heap.size < w2.heap.size := by omega
      have z2_1 : w.heap.size + 1 < w2.heap.size := by omega
      go_wp2_with fail
      go_ret
      exact ⟨by first | rfl | (simp; omega), by go_grown⟩

    · have H1 := Lib.hid h1
      have H2 := Lib.hid h2
      clear h h1 h2
      go_enter Try.func48, Try.ntmps48
      go_wp2_with fail
      refine (refValid_no _ _ _ H1.out).mono ?_
      rintro e w1 ⟨rfl, g1⟩
      obtain ⟨c1, f1, z1⟩ := laid g1
      try simp at z1
      have G1 : Grown w w1 := Grown.trans (by go_grown) g1
      clear g1
      have z1_0 : w.heap.size < w1.heap.size := by omega
      have z1_1 : w.heap.size + 1 < w1.heap.size := by omega
      go_wp2_with fail
      refine (refValid_no _ _ _ H2.out).mono ?_
      rintro e w2 ⟨rfl, g2⟩
      obtain ⟨c2, f2, z2⟩ := laid g2
      try simp at z2
      have G2 : Grown w w2 := Grown.trans (by go_grown) g2
      clear g2
      have z2_0 : w.heap.size < w2.heap.size := by omega
      have z2_1 : w.heap.size + 1 < w2.heap.size := by omega
      go_wp2_with fail
      go_ret
      exact ⟨by first | rfl | (simp; omega), by go_grown⟩


/-! ### Words -/
def hs (lo hi n : Int) : Bool := decide (lo ≤ n ∧ n ≤ hi)
def mn (a b : Int) : Int := if b < a then b else a
def mx (a b : Int) : Int := if a < b then b else a
theorem mn_cases (a b : Int) : (b < a ∧ mn a b = b) ∨ (a ≤ b ∧ mn a b = a) := by
  by_cases h : b < a
  · exact Or.inl ⟨h, if_pos h⟩
  · exact Or.inr ⟨by omega, if_neg h⟩
theorem mx_cases (a b : Int) : (a < b ∧ mx a b = b) ∨ (b ≤ a ∧ mx a b = a) := by
  by_cases h : a < b
  · exact Or.inl ⟨h, if_pos h⟩
  · exact Or.inr ⟨by omega, if_neg h⟩
/-- A thousandth, rounded down, and up. -/
def d1000 (n : Int) : Int := n / 1000
def u1000 (n : Int) : Int := -d1000 (-n)
def Pa (lo hi : Int) : Prop := Vd lo hi ∧ 0 ≤ lo ∧ hi ≤ 1000000
instance (lo hi : Int) : Decidable (Pa lo hi) := by unfold Pa; infer_instance
theorem mul_bd {n a : Int} (hn : -1000000000000 ≤ n ∧ n ≤ 1000000000000) (ha : 0 ≤ a ∧ a ≤ 1000000) : -1000000000000000000 ≤ n * a ∧ n * a ≤ 1000000000000000000 := by
  have h1 : n * a ≤ 1000000000000 * a := Int.mul_le_mul_of_nonneg_right hn.2 ha.1
  have h2 : -1000000000000 * a ≤ n * a := Int.mul_le_mul_of_nonneg_right hn.1 ha.1
  omega
theorem cut1000 {n : Int} (h : n < 0) : n.tdiv 1000 = -((-n) / 1000) ∧ n.tmod 1000 = -((-n) % 1000) := by
  constructor
  · rw [← Int.neg_neg n, Int.neg_tdiv, Int.tdiv_eq_ediv_of_nonneg (by omega), Int.neg_neg]
  · rw [← Int.neg_neg n, Int.neg_tmod, Int.tmod_eq_emod_of_nonneg (by omega), Int.neg_neg]

theorem refIn_any (lo hi n : Int) (w : World) : Calls Try.prog 21 #[.agg #[.int .i64 lo, .int .i64 hi], .int .i64 n] w fun e w' => e = .returned (.bool (hs lo hi n)) ∧ Grown w w' := by
  by_cases h0 : lo ≤ n
  · by_cases h1 : n ≤ hi
    · have H : Hid (hs lo hi n = true) := Lib.hid (by unfold hs; simp [h0, h1])
      go_enter Try.func21, Try.ntmps21
      go_wp2_with fail
      go_ret
      exact ⟨by rw [H.out]; first | rfl | (simp; omega), by go_grown⟩

    · have H : Hid (hs lo hi n = false) := Lib.hid (by unfold hs; simp [h1])
      go_enter Try.func21, Try.ntmps21
      go_wp2_with fail
      go_ret
      exact ⟨by rw [H.out]; first | rfl | (simp; omega), by go_grown⟩

  · have H : Hid (hs lo hi n = false) := Lib.hid (by unfold hs; simp [h0])
    go_enter Try.func21, Try.ntmps21
    go_wp2_with fail
    go_ret
    exact ⟨by rw [H.out]; first | rfl | (simp; omega), by go_grown⟩


end Sn
end Go.Proofs.Ytndabfpinkakbaa
