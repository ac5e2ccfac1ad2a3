/-
  The walks of the laws of layer 1: each law returns true.
-/
import Derived.Test.YtibjemalggjcgaaExactFacts
namespace Go.Proofs.Ytibjemalggjcgaa
open Go.RowKit
namespace Ex

theorem dv_neg1 {a b : Int} (h : Dv a b) : Dv (-a) b := by obtain ⟨⟨a0, a1⟩, ⟨b0, b1⟩, hb⟩ := h; exact ⟨⟨by omega, by omega⟩, ⟨by omega, by omega⟩, hb⟩
theorem dv_neg2 {a b : Int} (h : Dv a b) : Dv a (-b) := by obtain ⟨⟨a0, a1⟩, ⟨b0, b1⟩, hb⟩ := h; exact ⟨⟨by omega, by omega⟩, ⟨by omega, by omega⟩, by omega⟩

set_option maxRecDepth 100000 in
set_option maxHeartbeats 800000 in
theorem law_between (a b : Int) (w : World) :
    Calls Try.prog 4 #[.int .i64 a, .int .i64 b] w fun e w' => e = .returned (.bool true) ∧ Grown w w' := by
  by_cases h : Dv a b
  · have F := Lib.hid (floor_ok a b · h)
    have C := Lib.hid (ceil_ok a b · h)
    obtain ⟨⟨a0, a1⟩, ⟨b0, b1⟩, hb⟩ := h
    by_cases hn : b < 0
    · have F' : Hid (∀ w, Calls Try.prog 11 #[.int .i64 a, .int .i64 b] w fun e w' => e = .returned (.tuple #[.int .i64 (fl (-a) (-b)), .int .i64 0]) ∧ Grown w w') := Lib.hid (fun w => by rw [fl_neg_neg a b hb]; exact F.out w)
      have C' : Hid (∀ w, Calls Try.prog 13 #[.int .i64 a, .int .i64 b] w fun e w' => e = .returned (.tuple #[.int .i64 (ce (-a) (-b)), .int .i64 0]) ∧ Grown w w') := Lib.hid (fun w => by rw [ce_neg_neg a b hb]; exact C.out w)
      obtain ⟨h1, h2, h3, h4⟩ := between (-a) (show 0 < -b by omega)
      have h5 := whole_beq (-a) (-b) (by omega)
      rw [Int.neg_tmod, Int.tmod_neg] at h5
      obtain ⟨f0, f1⟩ := fl_bd (a := -a) (b := -b) (m := 1000000000000) (by omega) (by omega)
      have hb' : (-b == 0) = false := by simp [hb]
      clear F C
      go_enter Try.func4, Try.ntmps4
      go_wp2_with fail
      refine (head_any _).mono ?_
      rintro e w1 ⟨rfl, g1⟩
      go_wp2_with fail
      refine (F'.out _).mono ?_
      rintro e w2 ⟨rfl, g2⟩
      go_wp2_with fail
      refine (C'.out _).mono ?_
      rintro e w3 ⟨rfl, g3⟩
      go_wp2_with fail
      go_ret
      exact ⟨rfl, Grown.trans g1 (Grown.trans g2 g3)⟩
    · obtain ⟨h1, h2, h3, h4⟩ := between a (show 0 < b by omega)
      have h5 := whole_beq a b hb
      have hb' : (b == 0) = false := by simp [hb]
      go_enter Try.func4, Try.ntmps4
      go_wp2_with fail
      refine (head_any _).mono ?_
      rintro e w1 ⟨rfl, g1⟩
      go_wp2_with fail
      refine (F.out _).mono ?_
      rintro e w2 ⟨rfl, g2⟩
      go_wp2_with fail
      refine (C.out _).mono ?_
      rintro e w3 ⟨rfl, g3⟩
      go_wp2_with fail
      go_ret
      exact ⟨rfl, Grown.trans g1 (Grown.trans g2 g3)⟩
  · have F := Lib.hid (floor_bad a b · h)
    have C := Lib.hid (ceil_bad a b · h)
    clear h
    go_enter Try.func4, Try.ntmps4
    go_wp2_with fail
    refine (head_any _).mono ?_
    rintro e w1 ⟨rfl, g1⟩
    go_wp2_with fail
    refine (F.out _).mono ?_
    rintro e w2 ⟨rfl, g2⟩
    go_wp2_with fail
    refine (C.out _).mono ?_
    rintro e w3 ⟨rfl, g3⟩
    go_wp2_with fail
    go_ret
    exact ⟨rfl, Grown.trans g1 (Grown.trans g2 g3)⟩

set_option maxRecDepth 100000 in
set_option maxHeartbeats 800000 in
theorem law_signs (a b : Int) (w : World) :
    Calls Try.prog 5 #[.int .i64 a, .int .i64 b] w fun e w' => e = .returned (.bool true) ∧ Grown w w' := by
  by_cases h : Dv a b
  · have F := Lib.hid (floor_ok a b · h)
    have C1 := Lib.hid (ceil_ok (-a) b · (dv_neg1 h))
    have C2 := Lib.hid (ceil_ok a (-b) · (dv_neg2 h))
    have F2 := Lib.hid (floor_ok (-a) (-b) · (dv_neg1 (dv_neg2 h)))
    obtain ⟨⟨a0, a1⟩, ⟨b0, b1⟩, hb⟩ := h
    rw [ce_neg] at C1
    rw [ce_neg' a b hb] at C2
    rw [fl_neg_neg a b hb] at F2
    obtain ⟨f0, f1⟩ := fl_bd (a := a) (b := b) (m := 1000000000000) (by omega) (by omega)
    clear hb
    go_enter Try.func5, Try.ntmps5
    go_wp2_with fail
    refine (head_any _).mono ?_
    rintro e w1 ⟨rfl, g1⟩
    go_wp2_with fail
    refine (F.out _).mono ?_
    rintro e w2 ⟨rfl, g2⟩
    go_wp2_with fail
    refine (C1.out _).mono ?_
    rintro e w3 ⟨rfl, g3⟩
    go_wp2_with fail
    refine (C2.out _).mono ?_
    rintro e w4 ⟨rfl, g4⟩
    go_wp2_with fail
    refine (F2.out _).mono ?_
    rintro e w5 ⟨rfl, g5⟩
    go_wp2_with fail
    go_ret
    exact ⟨rfl, Grown.trans g1 (Grown.trans g2 (Grown.trans g3 (Grown.trans g4 g5)))⟩
  · have F := Lib.hid (floor_bad a b · h)
    clear h
    go_enter Try.func5, Try.ntmps5
    go_wp2_with fail
    refine (head_any _).mono ?_
    rintro e w1 ⟨rfl, g1⟩
    go_wp2_with fail
    refine (F.out _).mono ?_
    rintro e w2 ⟨rfl, g2⟩
    go_wp2_with fail
    go_ret
    exact ⟨rfl, Grown.trans g1 g2⟩
end Ex
end Go.Proofs.Ytibjemalggjcgaa
