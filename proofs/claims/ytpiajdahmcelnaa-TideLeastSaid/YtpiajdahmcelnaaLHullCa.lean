/-
  The landed package hull: what speaks of single places.
-/
import Derived.Test.YtpiajdahmcelnaaLHullSl
namespace Go.Proofs.Ytpiajdahmcelnaa
open Go.RowKit
namespace Hl
theorem coord_c (n : Int) (w : World) : Calls Try.prog 69 #[.int .i64 n] w fun e w' => e = .returned (.bool (decide (-500000 ≤ n ∧ n ≤ 500000))) ∧ w = w' := by
  by_cases h1 : -500000 ≤ n
  · by_cases h2 : n ≤ 500000
    · rw [decide_eq_true (show -500000 ≤ n ∧ n ≤ 500000 from ⟨h1, h2⟩)]
      go_enter Try.func69, Try.ntmps69
      go_wp2_with fail
      go_ret
      exact ⟨rfl, rfl⟩
    · rw [decide_eq_false (show ¬ (-500000 ≤ n ∧ n ≤ 500000) from fun h => h2 h.2)]
      go_enter Try.func69, Try.ntmps69
      go_wp2_with fail
      go_ret
      exact ⟨rfl, rfl⟩
  · rw [decide_eq_false (show ¬ (-500000 ≤ n ∧ n ≤ 500000) from fun h => h1 h.1)]
    go_enter Try.func69, Try.ntmps69
    go_wp2_with fail
    go_ret
    exact ⟨rfl, rfl⟩
theorem place_c (x : Pt) (w : World) : Calls Try.prog 45 #[.agg #[.int .i64 x.1, .int .i64 x.2]] w fun e w' => e = .returned (.bool (decide (Plc x))) ∧ w.alloc (.cells #[.int .i64 x.1, .int .i64 x.2] 30) = w' := by
  rcases x with ⟨x, y⟩
  have ed : decide (Plc (x, y)) = (decide (-500000 ≤ x ∧ x ≤ 500000) && decide (-500000 ≤ y ∧ y ≤ 500000)) := by
    rw [Bool.eq_iff_iff, decide_eq_true_eq, Bool.and_eq_true, decide_eq_true_eq, decide_eq_true_eq]
    exact Iff.rfl
  rw [ed]
  have cx := fun w => coord_c x w
  have cy := fun w => coord_c y w
  generalize decide (-500000 ≤ x ∧ x ≤ 500000) = p at cx ⊢
  generalize decide (-500000 ≤ y ∧ y ≤ 500000) = q at cy ⊢
  have CX := Lib.hid cx
  have CY := Lib.hid cy
  clear cx cy ed
  cases p
  · go_enter Try.func45, Try.ntmps45
    go_wp2_with fail
    refine (CX.out _).mono ?_
    rintro e w1 ⟨rfl, rfl⟩
    go_wp2_with fail
    go_ret
    exact ⟨rfl, rfl⟩
  · go_enter Try.func45, Try.ntmps45
    go_wp2_with fail
    refine (CX.out _).mono ?_
    rintro e w1 ⟨rfl, rfl⟩
    go_wp2_with fail
    refine (CY.out _).mono ?_
    rintro e w1 ⟨rfl, rfl⟩
    go_wp2_with fail
    go_ret
    exact ⟨rfl, rfl⟩
theorem places_c (p : List Pt) (b o c : Nat) (w : World) (hr : Row w b o p) (hl : p.length ≤ 9223372036854775807) : Calls Try.prog 65 #[.slice (some ⟨b, o, none⟩) p.length c] w (Tells (Plcs p) w) := by
  have HR := Lib.hid hr
  clear hr
  go_enter Try.func65, Try.ntmps65
  go_wp2_with fail
  go_loopw [7] (fun i wr => ∃ k : Nat, k ≤ p.length ∧ i = .int .i64 k ∧ Grew w wr ∧ Hid (∀ j, j < k → Plc (at' p j))) (fun i _ => p.length - (intOf i).toNat)
  case atStart => exact ⟨0, Nat.zero_le _, rfl, Grew.refl _, Lib.hid (fun j hj => by omega)⟩
  case round =>
    obtain ⟨k, hk, rfl, G, D⟩ := hrel
    by_cases hlt : k < p.length
    · obtain ⟨q0, q1⟩ := (HR.out.grown G).2 k hlt
      have PX : Hid (∀ w, Calls Try.prog 45 #[.agg #[.int .i64 (at' p k).1, .int .i64 (at' p k).2]] w fun e w' => e = .returned (.bool (decide (Plc (at' p k)))) ∧ Grew w w') := Lib.hid (fun w => (place_c (at' p k) w).mono (by rintro e w' ⟨rfl, rfl⟩; exact ⟨rfl, (Grew.refl w).alloc _ _⟩))
      by_cases hp : Plc (at' p k)
      · have HP := Lib.hid hp
        rw [decide_eq_true hp] at PX
        clear hp
        go_wp2_with fail
        refine (PX.out _).mono ?_
        rintro e w1 ⟨rfl, g1⟩
        have G1 : Grew w w1 := Grew.trans (G.alloc _ _) g1
        clear g1
        go_wp2_with fail
        go_roundw
        case rel => exact ⟨k + 1, by omega, by go_num, G1, Lib.hid (fun j hj => by
          by_cases e : j = k
          · rw [e]; exact HP.out
          · exact D.out j (by omega))⟩
        case measure => simp [intOf]; omega
      · have HP := Lib.hid hp
        rw [decide_eq_false hp] at PX
        clear hp
        go_wp2_with fail
        refine (PX.out _).mono ?_
        rintro e w1 ⟨rfl, g1⟩
        have G1 : Grew w w1 := Grew.trans (G.alloc _ _) g1
        clear g1
        go_wp2_with fail
        go_ret
        exact Tells.no (fun h => HP.out (h k hlt)) rfl G1
    · go_wp2_with fail
      go_ret
      exact Tells.yes (fun i hi => D.out i (by omega)) rfl G
theorem less_c (x y : Pt) (w : World) : Calls Try.prog 67 #[.agg #[.int .i64 x.1, .int .i64 x.2], .agg #[.int .i64 y.1, .int .i64 y.2]] w fun e w' => e = .returned (.bool (decide (ls x y))) ∧ (w.alloc (.cells #[.int .i64 (x.1), .int .i64 (x.2)] 30)).alloc (.cells #[.int .i64 (y.1), .int .i64 (y.2)] 30) = w' := by
  rcases x with ⟨a, b⟩
  rcases y with ⟨c, d⟩
  by_cases h : ls (a, b) (c, d)
  · rw [decide_eq_true h]
    rcases h with h | ⟨h, k⟩
    · simp only at h
      go_enter Try.func67, Try.ntmps67
      go_wp2_with fail
      go_ret
      exact ⟨rfl, rfl⟩
    · simp only at h k
      subst h
      go_enter Try.func67, Try.ntmps67
      go_wp2_with fail
      go_ret
      exact ⟨rfl, rfl⟩
  · rw [decide_eq_false h]
    by_cases e : a = c
    · subst e
      have k : d ≤ b := by
        by_cases k : b < d
        · exact absurd (Or.inr ⟨rfl, k⟩) h
        · omega
      clear h
      go_enter Try.func67, Try.ntmps67
      go_wp2_with fail
      go_ret
      exact ⟨by first | rfl | (simp; omega), rfl⟩
    · have k : c < a := by
        by_cases k : a < c
        · exact absurd (Or.inl k) h
        · omega
      have e' : (a == c) = false := by simp [e]
      clear h e
      go_enter Try.func67, Try.ntmps67
      go_wp2_with fail
      go_ret
      exact ⟨by first | rfl | (simp; omega), rfl⟩
theorem turn_c (x y z : Pt) (w : World) (ha : Plc x) (hb : Plc y) (hc : Plc z) : Calls Try.prog 48 #[.agg #[.int .i64 x.1, .int .i64 x.2], .agg #[.int .i64 y.1, .int .i64 y.2], .agg #[.int .i64 z.1, .int .i64 z.2]] w fun e w' => e = .returned (.int .i64 (cr x y z)) ∧ ((w.alloc (.cells #[.int .i64 (x.1), .int .i64 (x.2)] 30)).alloc (.cells #[.int .i64 (y.1), .int .i64 (y.2)] 30)).alloc (.cells #[.int .i64 (z.1), .int .i64 (z.2)] 30) = w' := by
  rcases x with ⟨a1, a2⟩
  rcases y with ⟨b1, b2⟩
  rcases z with ⟨c1, c2⟩
  obtain ⟨⟨m0, m1⟩, ⟨m2, m3⟩⟩ := cr_bd ha hb hc
  obtain ⟨⟨p0, p1⟩, ⟨p2, p3⟩⟩ := ha
  obtain ⟨⟨q0, q1⟩, ⟨q2, q3⟩⟩ := hb
  obtain ⟨⟨r0, r1⟩, ⟨r2, r3⟩⟩ := hc
  simp only at p0 p1 p2 p3 q0 q1 q2 q3 r0 r1 r2 r3 m0 m1 m2 m3
  go_enter Try.func48, Try.ntmps48
  go_wp2_with fail
  go_ret
  exact ⟨rfl, rfl⟩
/-- What a value function of a place answers. -/
def Measures (g : Nat) (m : Pt → Int) : Prop := ∀ (x : Pt) (w : World), Plc x → Calls Try.prog g #[.agg #[.int .i64 x.1, .int .i64 x.2]] w fun e w' => e = .returned (.int .i64 (m x)) ∧ w.alloc (.cells #[.int .i64 x.1, .int .i64 x.2] 30) = w'
theorem measX : Measures 71 (fun x => x.1) := fun x w hx => by
  rcases x with ⟨x, y⟩
  clear hx
  go_enter Try.func71, Try.ntmps71
  go_wp2_with fail
  go_ret
  exact ⟨rfl, rfl⟩
theorem measY : Measures 72 (fun x => x.2) := fun x w hx => by
  rcases x with ⟨x, y⟩
  clear hx
  go_enter Try.func72, Try.ntmps72
  go_wp2_with fail
  go_ret
  exact ⟨rfl, rfl⟩
end Hl
end Go.Proofs.Ytpiajdahmcelnaa
