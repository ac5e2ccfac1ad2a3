/-
  The examples at the head of the statements about layer 3.
  Small contracts in the form that the laws' walks take.
-/
import Derived.Test.YteglefjnbkocgaaHullCon
namespace Go.Proofs.Yteglefjnbkocgaa
open Go.RowKit
namespace Hl
theorem Sl.row {w : World} {v : Value} {p : List Pt} (h : Sl w v p) (hn : p ≠ []) : ∃ b o c, v = .slice (some ⟨b, o, none⟩) p.length c ∧ Row w b o p := by
  rcases h with ⟨h, _⟩ | h
  · exact absurd h hn
  · exact h
theorem Sl.of {w : World} {b o c : Nat} {p : List Pt} (h : Row w b o p) : Sl w (.slice (some ⟨b, o, none⟩) p.length c) p := Or.inr ⟨b, o, c, rfl, h⟩
theorem h_six (K : Code) (b o c : Nat) (w : World) (hr : Row w b o l6) : Calls Try.prog 38 #[.slice (some ⟨b, o, none⟩) 6 c] w fun e w' => ∃ b' o' c', e = .returned (.tuple #[.slice (some ⟨b', o', none⟩) 4 c', .int .i64 0]) ∧ Row w' b' o' sq ∧ Grew w w' := by
  refine (K.hull_ok l6 _ w (Sl.of hr) (by decide) (by decide) six_plcs).mono ?_
  rintro e w1 ⟨q, hq, hd⟩
  obtain rfl := six_is hq
  rcases hd with ⟨_, v, rfl, hs, g⟩ | ⟨h, _⟩
  · obtain ⟨b', o', c', rfl, hr'⟩ := hs.row (by decide)
    exact ⟨b', o', c', rfl, hr', g⟩
  · exact absurd h (by decide)
theorem h_eight (K : Code) (b o c : Nat) (w : World) (hr : Row w b o seg) : Calls Try.prog 30 #[.slice (some ⟨b, o, none⟩) 2 c] w fun e w' => ∃ b' o' c', e = .returned (.tuple #[.slice (some ⟨b', o', none⟩) 4 c', .int .i64 0]) ∧ Row w' b' o' o4 ∧ Grew w w' := by
  refine (K.eight_ok seg _ w (Sl.of hr) seg_vl).mono ?_
  rintro e w1 ⟨q, v, hq, rfl, hs, g⟩
  obtain rfl := seg_oct hq
  obtain ⟨b', o', c', rfl, hr'⟩ := hs.row (by decide)
  exact ⟨b', o', c', rfl, hr', g⟩
theorem h_has (K : Code) (b o c : Nat) (w : World) (hr : Row w b o sq) : Calls Try.prog 24 #[.slice (some ⟨b, o, none⟩) 4 c, .agg #[.int .i64 4, .int .i64 3]] w fun e w' => e = .returned (.tuple #[.bool true, .int .i64 0]) ∧ Grew w w' := by
  refine (K.has_ok sq (4, 3) _ w (Sl.of hr) sq_vl (by decide)).mono ?_
  rintro e w1 ⟨r, rfl, hr, g⟩
  rw [hr.2 sq_has]
  exact ⟨rfl, g⟩
theorem h_not (K : Code) (b o c : Nat) (w : World) (hr : Row w b o sq) : Calls Try.prog 24 #[.slice (some ⟨b, o, none⟩) 4 c, .agg #[.int .i64 5, .int .i64 3]] w fun e w' => e = .returned (.tuple #[.bool false, .int .i64 0]) ∧ Grew w w' := by
  refine (K.has_ok sq (5, 3) _ w (Sl.of hr) sq_vl (by decide)).mono ?_
  rintro e w1 ⟨r, rfl, hr, g⟩
  cases r
  · exact ⟨rfl, g⟩
  · exact absurd (hr.1 rfl) sq_not
theorem h_nil (K : Code) (w : World) : Calls Try.prog 38 #[.slice none 0 0] w fun e w' => ∃ v, e = .returned (.tuple #[v, .int .i64 1]) ∧ Grew w w' := by
  refine (K.hull_bad [] _ w (Or.inl ⟨rfl, none, 0, rfl⟩) (by decide) (Or.inl rfl)).mono ?_
  rintro e w1 ⟨v, rfl, _, g⟩
  exact ⟨v, rfl, g⟩
theorem h_far (K : Code) (b o c : Nat) (w : World) (hr : Row w b o [(500001, 0)]) : Calls Try.prog 38 #[.slice (some ⟨b, o, none⟩) 1 c] w fun e w' => ∃ v, e = .returned (.tuple #[v, .int .i64 1]) ∧ Grew w w' := by
  refine (K.hull_bad [(500001, 0)] _ w (Sl.of hr) (by decide) (Or.inr far_not)).mono ?_
  rintro e w1 ⟨v, rfl, _, g⟩
  exact ⟨v, rfl, g⟩
theorem Tells.to {q : Prop} {w : World} {e : Ending} {w' : World} (h : Tells q w e w') (hq : q) : e = .returned (.bool true) ∧ Grew w w' := by
  obtain ⟨r, rfl, hr, g⟩ := h
  rw [hr.2 hq]
  exact ⟨rfl, g⟩
theorem Tells.un {q : Prop} {w : World} {e : Ending} {w' : World} (h : Tells q w e w') (hq : ¬ q) : e = .returned (.bool false) ∧ Grew w w' := by
  obtain ⟨r, rfl, hr, g⟩ := h
  cases r
  · exact ⟨rfl, g⟩
  · exact absurd (hr.1 rfl) hq
theorem h_valid (K : Code) (b o c : Nat) (w : World) (hr : Row w b o sq) : Calls Try.prog 25 #[.slice (some ⟨b, o, none⟩) 4 c] w fun e w' => e = .returned (.bool true) ∧ Grew w w' :=
  (K.valid sq _ w (Sl.of hr) (by decide)).mono fun _ _ h => h.to sq_vl
theorem h_invalid (K : Code) (w : World) : Calls Try.prog 25 #[.slice none 0 0] w fun e w' => e = .returned (.bool false) ∧ Grew w w' :=
  (K.valid [] _ w (Or.inl ⟨rfl, none, 0, rfl⟩) (by decide)).mono fun _ _ h => h.un (fun t => absurd t.1.1 (by decide))
theorem h_same (p : List Pt) (n : Nat) (hn : p.length = n) (b o c b' o' c' : Nat) (w : World) (h : Row w b o p) (h' : Row w b' o' p) (hl : n ≤ 80) : Calls Try.prog 14 #[.slice (some ⟨b, o, none⟩) n c, .slice (some ⟨b', o', none⟩) n c'] w fun e w' => e = .returned (.bool true) ∧ Grew w w' := by
  subst hn
  exact (same_rows p p b o c b' o' c' w h h' rfl (by omega)).mono fun _ _ t => t.to rfl

end Hl
end Go.Proofs.Yteglefjnbkocgaa
namespace Go.Proofs.Yteglefjnbkocgaa
open Go.RowKit
namespace Hl

theorem few_yes (p : List Pt) (v : Value) (w : World) (hp : Sl w v p) (h : p.length ≤ 80) : Calls Try.prog 11 #[v] w fun e w' => e = .returned (.bool true) ∧ Grew w w' := by
  have := few_any p v w hp
  rw [decide_eq_true h] at this
  refine this.mono ?_
  rintro e w1 ⟨rfl, rfl⟩
  exact ⟨rfl, Grew.refl _⟩
theorem few_no (p : List Pt) (v : Value) (w : World) (hp : Sl w v p) (h : ¬ p.length ≤ 80) : Calls Try.prog 11 #[v] w fun e w' => e = .returned (.bool false) ∧ Grew w w' := by
  have := few_any p v w hp
  rw [decide_eq_false h] at this
  refine this.mono ?_
  rintro e w1 ⟨rfl, rfl⟩
  exact ⟨rfl, Grew.refl _⟩
theorem rvalid_nil (a : Option Addr) (c : Nat) (w : World) : Calls Try.prog 27 #[.slice a 0 c] w fun e w' => e = .returned (.bool false) ∧ Grew w w' := by
  go_enter Try.func27, Try.ntmps27
  go_wp2_with fail
  go_ret
  exact ⟨rfl, Grew.refl _⟩
theorem rvalid_any (p : List Pt) (v : Value) (w : World) (hp : Sl w v p) (hl : p.length ≤ 9223372036854775807) : Calls Try.prog 27 #[v] w (Tells (Vl p) w) := by
  rcases hp with ⟨rfl, a, c, rfl⟩ | ⟨b, o, c, rfl, hr⟩
  · refine (rvalid_nil a c w).mono ?_
    rintro e w1 ⟨rfl, g⟩
    exact Tells.no (fun t => absurd t.1.1 (by decide)) rfl g
  · exact valid_any p b o c w hr hl
theorem rvalid_yes (p : List Pt) (v : Value) (w : World) (hp : Sl w v p) (hl : p.length ≤ 80) (h : Vl p) : Calls Try.prog 27 #[v] w fun e w' => e = .returned (.bool true) ∧ Grew w w' :=
  (rvalid_any p v w hp (by omega)).mono fun _ _ t => t.to h
theorem rvalid_no (p : List Pt) (v : Value) (w : World) (hp : Sl w v p) (hl : p.length ≤ 80) (h : ¬ Vl p) : Calls Try.prog 27 #[v] w fun e w' => e = .returned (.bool false) ∧ Grew w w' :=
  (rvalid_any p v w hp (by omega)).mono fun _ _ t => t.un h
theorem rplace_yes (x : Pt) (w : World) (h : Plc x) : Calls Try.prog 22 #[.agg #[.int .i64 x.1, .int .i64 x.2]] w fun e w' => e = .returned (.bool true) ∧ Grew w w' := place_yes x.1 x.2 w h
theorem rplace_no (x : Pt) (w : World) (h : ¬ Plc x) : Calls Try.prog 22 #[.agg #[.int .i64 x.1, .int .i64 x.2]] w fun e w' => e = .returned (.bool false) ∧ Grew w w' := place_no x.1 x.2 w h
theorem has_yes (K : Code) (p : List Pt) (x : Pt) (v : Value) (w : World) (hs : Sl w v p) (hp : Vl p) (hx : Plc x) (h : Hs p x) : Calls Try.prog 24 #[v, .agg #[.int .i64 x.1, .int .i64 x.2]] w fun e w' => e = .returned (.tuple #[.bool true, .int .i64 0]) ∧ Grew w w' := by
  refine (K.has_ok p x v w hs hp hx).mono ?_
  rintro e w1 ⟨r, rfl, hr, g⟩
  rw [hr.2 h]
  exact ⟨rfl, g⟩
theorem has_no (K : Code) (p : List Pt) (x : Pt) (v : Value) (w : World) (hs : Sl w v p) (hp : Vl p) (hx : Plc x) (h : ¬ Hs p x) : Calls Try.prog 24 #[v, .agg #[.int .i64 x.1, .int .i64 x.2]] w fun e w' => e = .returned (.tuple #[.bool false, .int .i64 0]) ∧ Grew w w' := by
  refine (K.has_ok p x v w hs hp hx).mono ?_
  rintro e w1 ⟨r, rfl, hr, g⟩
  cases r
  · exact ⟨rfl, g⟩
  · exact absurd (hr.1 rfl) h
end Hl
end Go.Proofs.Yteglefjnbkocgaa
