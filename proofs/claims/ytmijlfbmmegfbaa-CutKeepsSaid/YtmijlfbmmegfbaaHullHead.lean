/-
  The examples at the head of the statements about layer 3.
-/
import Derived.Test.YtmijlfbmmegfbaaHullEx
namespace Go.Proofs.Ytmijlfbmmegfbaa
open Go.RowKit
namespace Hl
theorem Sl.row {w : World} {v : Value} {p : List Pt} (h : Sl w v p) (hn : p ≠ []) : ∃ b o c, v = .slice (some ⟨b, o, none⟩) p.length c ∧ Row w b o p := by
  rcases h with ⟨h, _⟩ | h
  · exact absurd h hn
  · exact h
theorem Sl.of {w : World} {b o c : Nat} {p : List Pt} (h : Row w b o p) : Sl w (.slice (some ⟨b, o, none⟩) p.length c) p := Or.inr ⟨b, o, c, rfl, h⟩
theorem h_six (K : Code) (b o c : Nat) (w : World) (hr : Row w b o l6) : Calls Try.prog 43 #[.slice (some ⟨b, o, none⟩) 6 c] w fun e w' => ∃ b' o' c', e = .returned (.tuple #[.slice (some ⟨b', o', none⟩) 4 c', .int .i64 0]) ∧ Row w' b' o' sq ∧ Grew w w' := by
  refine (K.hull_ok l6 _ w (Sl.of hr) (by decide) (by decide) six_plcs).mono ?_
  rintro e w1 ⟨q, hq, hd⟩
  obtain rfl := six_is hq
  rcases hd with ⟨_, v, rfl, hs, g⟩ | ⟨h, _⟩
  · obtain ⟨b', o', c', rfl, hr'⟩ := hs.row (by decide)
    exact ⟨b', o', c', rfl, hr', g⟩
  · exact absurd h (by decide)
theorem h_eight (K : Code) (b o c : Nat) (w : World) (hr : Row w b o seg) : Calls Try.prog 67 #[.slice (some ⟨b, o, none⟩) 2 c] w fun e w' => ∃ b' o' c', e = .returned (.tuple #[.slice (some ⟨b', o', none⟩) 4 c', .int .i64 0]) ∧ Row w' b' o' o4 ∧ Grew w w' := by
  refine (K.eight_ok seg _ w (Sl.of hr) seg_vl).mono ?_
  rintro e w1 ⟨q, v, hq, rfl, hs, g⟩
  obtain rfl := seg_oct hq
  obtain ⟨b', o', c', rfl, hr'⟩ := hs.row (by decide)
  exact ⟨b', o', c', rfl, hr', g⟩
theorem h_box (K : Code) (b o c : Nat) (w : World) (hr : Row w b o sq) : Calls Try.prog 11 #[.slice (some ⟨b, o, none⟩) 4 c] w fun e w' => e = .returned (.tuple #[.agg #[.int .i64 0, .int .i64 0], .agg #[.int .i64 4, .int .i64 4], .int .i64 0]) ∧ Grew w w' := by
  refine (K.box_ok sq _ w (Sl.of hr) sq_vl).mono ?_
  rintro e w1 ⟨lo, hi, hb, rfl, g⟩
  obtain ⟨rfl, rfl⟩ := sq_box hb
  exact ⟨rfl, g⟩
theorem h_has (K : Code) (b o c : Nat) (w : World) (hr : Row w b o sq) : Calls Try.prog 15 #[.slice (some ⟨b, o, none⟩) 4 c, .agg #[.int .i64 4, .int .i64 3]] w fun e w' => e = .returned (.tuple #[.bool true, .int .i64 0]) ∧ Grew w w' := by
  refine (K.has_ok sq (4, 3) _ w (Sl.of hr) sq_vl (by decide)).mono ?_
  rintro e w1 ⟨r, rfl, hr, g⟩
  rw [hr.2 sq_has]
  exact ⟨rfl, g⟩
theorem h_not (K : Code) (b o c : Nat) (w : World) (hr : Row w b o sq) : Calls Try.prog 15 #[.slice (some ⟨b, o, none⟩) 4 c, .agg #[.int .i64 5, .int .i64 3]] w fun e w' => e = .returned (.tuple #[.bool false, .int .i64 0]) ∧ Grew w w' := by
  refine (K.has_ok sq (5, 3) _ w (Sl.of hr) sq_vl (by decide)).mono ?_
  rintro e w1 ⟨r, rfl, hr, g⟩
  cases r
  · exact ⟨rfl, g⟩
  · exact absurd (hr.1 rfl) sq_not
theorem h_nil (K : Code) (w : World) : Calls Try.prog 43 #[.slice none 0 0] w fun e w' => ∃ v, e = .returned (.tuple #[v, .int .i64 1]) ∧ Grew w w' := by
  refine (K.hull_bad [] _ w (Or.inl ⟨rfl, none, 0, rfl⟩) (by decide) (Or.inl rfl)).mono ?_
  rintro e w1 ⟨v, rfl, _, g⟩
  exact ⟨v, rfl, g⟩
theorem h_far (K : Code) (b o c : Nat) (w : World) (hr : Row w b o [(500001, 0)]) : Calls Try.prog 43 #[.slice (some ⟨b, o, none⟩) 1 c] w fun e w' => ∃ v, e = .returned (.tuple #[v, .int .i64 1]) ∧ Grew w w' := by
  refine (K.hull_bad [(500001, 0)] _ w (Sl.of hr) (by decide) (Or.inr far_not)).mono ?_
  rintro e w1 ⟨v, rfl, _, g⟩
  exact ⟨v, rfl, g⟩
theorem Tells.to {q : Prop} {w : World} {e : Ending} {w' : World} (h : Tells q w e w') (hq : q) : e = .returned (.bool true) ∧ Grew w w' := by
  obtain ⟨r, rfl, hr, g⟩ := h
  rw [hr.2 hq]
  exact ⟨rfl, g⟩
theorem Tells.un {q : Prop} {w : World} {e : Ending} {w' : World} (h : Tells q w e w') (hq : ¬ q) : e = .returned (.bool false) ∧ Grew w w' := by
  obtain ⟨r, rfl, hr, g⟩ := h
  cases r
  · exact ⟨rfl, g⟩
  · exact absurd (hr.1 rfl) hq
theorem h_valid (K : Code) (b o c : Nat) (w : World) (hr : Row w b o sq) : Calls Try.prog 12 #[.slice (some ⟨b, o, none⟩) 4 c] w fun e w' => e = .returned (.bool true) ∧ Grew w w' :=
  (K.valid sq _ w (Sl.of hr) (by decide)).mono fun _ _ h => h.to sq_vl
theorem h_invalid (K : Code) (w : World) : Calls Try.prog 12 #[.slice none 0 0] w fun e w' => e = .returned (.bool false) ∧ Grew w w' :=
  (K.valid [] _ w (Or.inl ⟨rfl, none, 0, rfl⟩) (by decide)).mono fun _ _ h => h.un (fun t => absurd t.1.1 (by decide))
theorem h_same (p : List Pt) (n : Nat) (hn : p.length = n) (b o c b' o' c' : Nat) (w : World) (h : Row w b o p) (h' : Row w b' o' p) (hl : n ≤ 80) : Calls Try.prog 18 #[.slice (some ⟨b, o, none⟩) n c, .slice (some ⟨b', o', none⟩) n c'] w fun e w' => e = .returned (.bool true) ∧ Grew w w' := by
  subst hn
  exact (same_rows p p b o c b' o' c' w h h' rfl (by omega)).mono fun _ _ t => t.to rfl

end Hl
end Go.Proofs.Ytmijlfbmmegfbaa
