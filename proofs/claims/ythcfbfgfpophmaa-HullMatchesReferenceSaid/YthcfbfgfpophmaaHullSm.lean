/-
  Small contracts in the form that the laws' walks take.
-/
import Derived.Test.YthcfbfgfpophmaaHullHead
namespace Go.Proofs.Ythcfbfgfpophmaa
open Go.RowKit
namespace Hl

theorem few_yes (p : List Pt) (v : Value) (w : World) (hp : Sl w v p) (h : p.length ≤ 80) : Calls Try.prog 11 #[v] w fun e w' => e = .returned (.bool true) ∧ Grew w w' := by
  have := few_any p v w hp
  rw [decide_eq_true h] at this
  refine this.mono ?_
  rintro e w1 ⟨rfl, rfl⟩
  exact ⟨rfl, Grew.refl _⟩
theorem few_no (p : List Pt) (v : Value) (w : World) (hp : Sl w v p) (h : ¬ p.length ≤ 80) : Calls Try.prog 11 #[v] w fun e w' => e = .returned (.bool false) ∧ Grew w w' := by
  have := few_any p v w hp
  rw [decide_eq_false h] at this
  refine this.mono ?_
  rintro e w1 ⟨rfl, rfl⟩
  exact ⟨rfl, Grew.refl _⟩
theorem rvalid_nil (a : Option Addr) (c : Nat) (w : World) : Calls Try.prog 16 #[.slice a 0 c] w fun e w' => e = .returned (.bool false) ∧ Grew w w' := by
  go_enter Try.func16, Try.ntmps16
  go_wp2_with fail
  go_ret
  exact ⟨rfl, Grew.refl _⟩
theorem rvalid_any (p : List Pt) (v : Value) (w : World) (hp : Sl w v p) (hl : p.length ≤ 9223372036854775807) : Calls Try.prog 16 #[v] w (Tells (Vl p) w) := by
  rcases hp with ⟨rfl, a, c, rfl⟩ | ⟨b, o, c, rfl, hr⟩
  · refine (rvalid_nil a c w).mono ?_
    rintro e w1 ⟨rfl, g⟩
    exact Tells.no (fun t => absurd t.1.1 (by decide)) rfl g
  · exact valid_any p b o c w hr hl
theorem rvalid_yes (p : List Pt) (v : Value) (w : World) (hp : Sl w v p) (hl : p.length ≤ 80) (h : Vl p) : Calls Try.prog 16 #[v] w fun e w' => e = .returned (.bool true) ∧ Grew w w' :=
  (rvalid_any p v w hp (by omega)).mono fun _ _ t => t.to h
theorem rvalid_no (p : List Pt) (v : Value) (w : World) (hp : Sl w v p) (hl : p.length ≤ 80) (h : ¬ Vl p) : Calls Try.prog 16 #[v] w fun e w' => e = .returned (.bool false) ∧ Grew w w' :=
  (rvalid_any p v w hp (by omega)).mono fun _ _ t => t.un h
theorem rplace_yes (x : Pt) (w : World) (h : Plc x) : Calls Try.prog 27 #[.agg #[.int .i64 x.1, .int .i64 x.2]] w fun e w' => e = .returned (.bool true) ∧ Grew w w' := place_yes x.1 x.2 w h
theorem rplace_no (x : Pt) (w : World) (h : ¬ Plc x) : Calls Try.prog 27 #[.agg #[.int .i64 x.1, .int .i64 x.2]] w fun e w' => e = .returned (.bool false) ∧ Grew w w' := place_no x.1 x.2 w h
theorem has_yes (K : Code) (p : List Pt) (x : Pt) (v : Value) (w : World) (hs : Sl w v p) (hp : Vl p) (hx : Plc x) (h : Hs p x) : Calls Try.prog 17 #[v, .agg #[.int .i64 x.1, .int .i64 x.2]] w fun e w' => e = .returned (.tuple #[.bool true, .int .i64 0]) ∧ Grew w w' := by
  refine (K.has_ok p x v w hs hp hx).mono ?_
  rintro e w1 ⟨r, rfl, hr, g⟩
  rw [hr.2 h]
  exact ⟨rfl, g⟩
theorem has_no (K : Code) (p : List Pt) (x : Pt) (v : Value) (w : World) (hs : Sl w v p) (hp : Vl p) (hx : Plc x) (h : ¬ Hs p x) : Calls Try.prog 17 #[v, .agg #[.int .i64 x.1, .int .i64 x.2]] w fun e w' => e = .returned (.tuple #[.bool false, .int .i64 0]) ∧ Grew w w' := by
  refine (K.has_ok p x v w hs hp hx).mono ?_
  rintro e w1 ⟨r, rfl, hr, g⟩
  cases r
  · exact ⟨rfl, g⟩
  · exact absurd (hr.1 rfl) h
end Hl
end Go.Proofs.Ythcfbfgfpophmaa
