/-
  The reference implementation of layer 3 over slices of points: Inside.
-/
import Derived.Test.YthcfbfgfpophmaaHullIn
import Derived.Deep.RegionWith
namespace Go.Proofs.Ythcfbfgfpophmaa
open Go.RowKit
namespace Hl

theorem hs1 {p : List Pt} {x : Pt} (h : p.length = 1) : Hs p x ↔ at' p 0 = x := by unfold Hs; rw [if_pos h]
theorem hs2 {p : List Pt} {x : Pt} (h : p.length = 2) : Hs p x ↔ (cr (at' p 0) (at' p 1) x = 0 ∧ btw (at' p 0) (at' p 1) x) := by unfold Hs; rw [if_neg (by omega), if_pos h]
theorem hs3 {p : List Pt} {x : Pt} (h : 3 ≤ p.length) : Hs p x ↔ Ins p.length (at' p) x := by unfold Hs; rw [if_neg (by omega), if_neg (by omega)]

set_option maxRecDepth 100000 in
set_option maxHeartbeats 2000000 in
theorem inside_one (p : List Pt) (x : Pt) (b o c : Nat) (w : World) (hr : Row w b o p) (h1 : p.length = 1) : Calls Try.prog 25 #[.slice (some ⟨b, o, none⟩) p.length c, .agg #[.int .i64 x.1, .int .i64 x.2]] w (Tells (Hs p x) w) := by
  have HS := Lib.hid (hs1 (x := x) h1)
  obtain ⟨q0, q1⟩ := hr.2 0 (by omega)
  rw [Nat.zero_mul, Nat.add_zero] at q0 q1
  have hb := hr.1
  rw [h1]
  have i1 : (0 : Int) < (1 : Int) := by omega
  clear h1 hr
  rcases x with ⟨x1, x2⟩
  obtain ⟨y, hy⟩ : ∃ y, at' p 0 = y := ⟨_, rfl⟩
  rw [hy] at q0 q1
  have HY := Lib.hid hy
  clear hy
  rcases y with ⟨y1, y2⟩
  simp only at q0 q1
  by_cases e1 : y1 = x1
  · subst e1
    by_cases e2 : y2 = x2
    · subst e2
      go_enter Try.func25, Try.ntmps25
      go_wp2_with fail
      go_quiet (fail)
      go_wp2_with fail
      go_ret
      exact Tells.yes (HS.out.2 HY.out) rfl (Grew.drewN (Grew.alloc (Grew.refl _) _ _) _)
    · go_enter Try.func25, Try.ntmps25
      go_wp2_with fail
      go_quiet (fail)
      go_wp2_with fail
      go_ret
      exact Tells.no (fun h => e2 (by have := HS.out.1 h; rw [HY.out] at this; exact congrArg Prod.snd this)) rfl (Grew.drewN (Grew.alloc (Grew.refl _) _ _) _)
  · go_enter Try.func25, Try.ntmps25
    go_wp2_with fail
    go_quiet (fail)
    go_wp2_with fail
    go_ret
    exact Tells.no (fun h => e1 (by have := HS.out.1 h; rw [HY.out] at this; exact congrArg Prod.fst this)) rfl (Grew.drewN (Grew.alloc (Grew.refl _) _ _) _)

set_option maxRecDepth 100000 in
set_option maxHeartbeats 4000000 in
/-- Two corners, and a place on their line. (Beside it: see NOTES.) -/
theorem inside_two_on (p : List Pt) (x : Pt) (b o c : Nat) (w : World) (hr : Row w b o p) (hp : Plcs p) (hx : Plc x) (h1 : p.length = 2) (hz : cr (at' p 0) (at' p 1) x = 0) : Calls Try.prog 25 #[.slice (some ⟨b, o, none⟩) p.length c, .agg #[.int .i64 x.1, .int .i64 x.2]] w (Tells (Hs p x) w) := by
  have HS := Lib.hid (hs2 (x := x) h1)
  obtain ⟨q0, q1⟩ := hr.2 0 (by omega)
  rw [Nat.zero_mul, Nat.add_zero] at q0 q1
  obtain ⟨q2, q3⟩ := hr.2 1 (by omega)
  have hb := hr.1
  have hb1 : b < w.heap.size + 1 := by omega
  have hb2 : b < w.heap.size + 1 + 1 := by omega
  have hb3 : b < w.heap.size + 1 + 1 + 1 := by omega
  have hb4 : b < w.heap.size + 1 + 1 + 1 + 1 := by omega
  have hb5 : b < w.heap.size + 1 + 1 + 1 + 1 + 1 := by omega
  have hb6 : b < w.heap.size + 1 + 1 + 1 + 1 + 1 + 1 := by omega
  have CX0 := (cross_x (at' p 0) (at' p 1) x · (hp 0 (by omega)) (hp 1 (by omega)) hx)
  have BB0 := between_x (at' p 0) (at' p 1) x
  rw [h1]
  clear h1 hr hp hx
  rw [hz] at CX0
  · skip
    have CX := Lib.hid CX0
    clear CX0
    by_cases ht : btw (at' p 0) (at' p 1) x
    · rw [decide_eq_true ht] at BB0
      have BB := Lib.hid BB0
      have T := Lib.hid (HS.out.2 ⟨hz, ht⟩)
      clear BB0 hz ht
      go_enter Try.func25, Try.ntmps25
      go_wp2_with fail
      go_region_held3 (fun w' => w'.cell? ⟨b, o, none⟩ = some (.int .i64 (at' p 0).1) ∧ w'.cell? ⟨b, o + 1, none⟩ = some (.int .i64 (at' p 0).2) ∧ w'.cell? ⟨b, o + 1 * 2, none⟩ = some (.int .i64 (at' p 1).1) ∧ w'.cell? ⟨b, o + 1 * 2 + 1, none⟩ = some (.int .i64 (at' p 1).2) ∧ w'.cell? ⟨w.heap.size, 0, none⟩ = some (.int .i64 x.1) ∧ w'.cell? ⟨w.heap.size, 1, none⟩ = some (.int .i64 x.2)) (simp [go_sem, *])
        (first | (go_at_call 29; refine (CX.out _).mono ?_; rintro e w' ⟨rfl, rfl⟩) | (go_at_call 46; refine (BB.out _).mono ?_; rintro e w' ⟨rfl, rfl⟩))
      go_wp2_with fail
      go_ret
      exact Tells.yes T.out rfl (by (repeat' (first | (with_reducible exact Grew.refl _) | (with_reducible assumption) | (with_reducible refine Grew.alloc ?_ _ _) | (with_reducible refine Grew.drew ?_) | (with_reducible refine Grew.drewN ?_ _) | (with_reducible refine Grew.setCell ?_ ?_ _) | go_size)))
    · rw [decide_eq_false ht] at BB0
      have BB := Lib.hid BB0
      have T := Lib.hid (fun h : Hs p x => ht (HS.out.1 h).2)
      clear BB0 hz ht
      go_enter Try.func25, Try.ntmps25
      go_wp2_with fail
      go_region_held3 (fun w' => w'.cell? ⟨b, o, none⟩ = some (.int .i64 (at' p 0).1) ∧ w'.cell? ⟨b, o + 1, none⟩ = some (.int .i64 (at' p 0).2) ∧ w'.cell? ⟨b, o + 1 * 2, none⟩ = some (.int .i64 (at' p 1).1) ∧ w'.cell? ⟨b, o + 1 * 2 + 1, none⟩ = some (.int .i64 (at' p 1).2) ∧ w'.cell? ⟨w.heap.size, 0, none⟩ = some (.int .i64 x.1) ∧ w'.cell? ⟨w.heap.size, 1, none⟩ = some (.int .i64 x.2)) (simp [go_sem, *])
        (first | (go_at_call 29; refine (CX.out _).mono ?_; rintro e w' ⟨rfl, rfl⟩) | (go_at_call 46; refine (BB.out _).mono ?_; rintro e w' ⟨rfl, rfl⟩))
      go_wp2_with fail
      go_ret
      exact Tells.no T.out rfl (by (repeat' (first | (with_reducible exact Grew.refl _) | (with_reducible assumption) | (with_reducible refine Grew.alloc ?_ _ _) | (with_reducible refine Grew.drew ?_) | (with_reducible refine Grew.drewN ?_ _) | (with_reducible refine Grew.setCell ?_ ?_ _) | go_size)))
end Hl
end Go.Proofs.Ythcfbfgfpophmaa
