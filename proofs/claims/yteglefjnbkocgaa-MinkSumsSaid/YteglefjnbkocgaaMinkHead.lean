/-
  The examples at the head of the statements about layer 6.
-/
import Derived.Test.YteglefjnbkocgaaMinkOne
namespace Go.Proofs.Yteglefjnbkocgaa
open Go.RowKit Hl
namespace Mk
/-- What package mink owes. -/
abbrev Code : Prop := Fns 12 15 17 19
def p3 : List Pt := [(0, 0), (2, 0), (0, 2)]
def d2 : List Pt := [(0, 0), (1, 1)]
def s5 : List Pt := [(0, 0), (2, 0), (3, 1), (1, 3), (0, 2)]
def o8 : List Pt := [(-2, -1), (-1, -2), (1, -2), (2, -1), (2, 1), (1, 2), (-1, 2), (-2, 1)]
def h3 : List Pt := [(3, -1), (5, -1), (3, 1)]
def m3 : List Pt := [(-2, 0), (0, -2), (0, 0)]
def z1 : List Pt := [(0, 0)]
theorem p3_vl : Vl p3 := vl_of (pg_of (by decide)) (by decide) (plcs_of (by decide))
theorem d2_vl : Vl d2 := vl_of ⟨by decide, fun i h1 h2 => by
  have h2' : i < 2 := h2
  obtain rfl : i = 1 := by omega
  decide, fun h => absurd h (by decide)⟩ (by decide) (plcs_of (by decide))
theorem not_nil : ¬ Vl [] := fun h => absurd h.1.1 (by decide)
theorem ex_sum : SumIs p3 d2 0 s5 := Or.inr ⟨⟨p3_vl, d2_vl⟩, s5, ⟨pg_of (by decide), by decide, fun x hx => hs_of (by decide) (by
  revert x
  decide)⟩, Or.inr ⟨plcs_of (by decide), rfl, Or.inl ⟨by decide, rfl⟩⟩⟩
theorem wd_23 : Wd 2 3 := ⟨by decide, by decide, fun j h0 h => by
  by_cases c : 3 ≤ j
  · exact c
  · exfalso
    have : j = 0 ∨ j = 1 ∨ j = 2 := by omega
    rcases this with rfl | rfl | rfl <;> exact absurd h (by decide)⟩
theorem wd_00 : Wd 0 0 := ⟨by decide, by decide, fun _ h0 _ => h0⟩
theorem ex_two : DskIs 2 0 o8 := Or.inr ⟨by decide, rfl, 3, wd_23, ⟨pg_of (by decide), by decide, fun x hx => hs_of (by decide) (by
  revert x
  decide)⟩⟩
theorem ex_zero : DskIs 0 0 z1 := Or.inr ⟨by decide, rfl, 0, wd_00, ⟨by decide, fun i h1 h2 => by
  have h2' : i < 1 := h2
  omega, fun h => absurd h (by decide)⟩, by decide, fun x hx => (hs1 (by decide)).2 (by
  revert x
  decide)⟩
theorem ex_less : DskIs (-1) 1 [] := Or.inl ⟨by decide, rfl, rfl⟩
theorem ex_shf : ShfIs p3 (3, -1) 0 h3 := Or.inr ⟨⟨p3_vl, by decide⟩, Or.inr ⟨plcs_of (by decide), rfl, by decide⟩⟩
theorem ex_far : ShfIs p3 (500000, 0) 3 [] := Or.inr ⟨⟨p3_vl, by decide⟩, Or.inl ⟨fun h => by
  have := (h 1 (by decide)).1.2
  exact absurd this (by decide), rfl, rfl⟩⟩
theorem ex_mir : MirIs p3 0 m3 := Or.inr ⟨p3_vl, rfl, ⟨pg_of (by decide), by decide, fun x hx => hs_of (by decide) (by
  revert x
  decide)⟩⟩
theorem ex_nil : SumIs p3 [] 1 [] := Or.inl ⟨fun h => not_nil h.2, rfl, rfl⟩
theorem ans_of {P : Int → List Pt → Prop} {k0 : Int} {r0 : List Pt} {w : World} {e : Ending} {w' : World} (u : ∀ k r, P k r → k = k0 ∧ r = r0) (h : Ans P w e w') : ∃ v, e = .returned (.tuple #[v, .int .i64 k0]) ∧ Sl w' v r0 ∧ Grew w w' := by
  obtain ⟨v, k, r, hk, rfl, s, g⟩ := h
  obtain ⟨rfl, rfl⟩ := u k r hk
  exact ⟨v, rfl, s, g⟩
theorem h_sum (F : Code) (v u : Value) (w : World) (hs : Sl w v p3) (hu : Sl w u d2) : Calls Try.prog 12 #[v, u] w fun e w' => ∃ v, e = .returned (.tuple #[v, .int .i64 0]) ∧ Sl w' v s5 ∧ Grew w w' :=
  (F.sum p3 d2 v u w hs hu (by decide) (by decide)).mono fun _ _ h => ans_of (fun _ _ g => g.one ex_sum) h
theorem h_nil (F : Code) (v : Value) (w : World) (hs : Sl w v p3) : Calls Try.prog 12 #[v, .slice none 0 0] w fun e w' => ∃ v, e = .returned (.tuple #[v, .int .i64 1]) ∧ Sl w' v [] ∧ Grew w w' :=
  (F.sum p3 [] v _ w hs (Or.inl ⟨rfl, none, 0, rfl⟩) (by decide) (by decide)).mono fun _ _ h => ans_of (fun _ _ g => g.one ex_nil) h
theorem h_two (F : Code) (w : World) : Calls Try.prog 19 #[.int .i64 2] w fun e w' => ∃ v, e = .returned (.tuple #[v, .int .i64 0]) ∧ Sl w' v o8 ∧ Grew w w' :=
  (F.dsk 2 w).mono fun _ _ h => ans_of (fun _ _ g => g.one ex_two) h
theorem h_zero (F : Code) (w : World) : Calls Try.prog 19 #[.int .i64 0] w fun e w' => ∃ v, e = .returned (.tuple #[v, .int .i64 0]) ∧ Sl w' v z1 ∧ Grew w w' :=
  (F.dsk 0 w).mono fun _ _ h => ans_of (fun _ _ g => g.one ex_zero) h
theorem h_less (F : Code) (w : World) : Calls Try.prog 19 #[.int .i64 (-1)] w fun e w' => ∃ v, e = .returned (.tuple #[v, .int .i64 1]) ∧ Sl w' v [] ∧ Grew w w' :=
  (F.dsk (-1) w).mono fun _ _ h => ans_of (fun _ _ g => g.one ex_less) h
theorem h_shf (F : Code) (v : Value) (w : World) (hs : Sl w v p3) : Calls Try.prog 15 #[v, .agg #[.int .i64 3, .int .i64 (-1)]] w fun e w' => ∃ v, e = .returned (.tuple #[v, .int .i64 0]) ∧ Sl w' v h3 ∧ Grew w w' :=
  (F.shf p3 (3, -1) v w hs (by decide)).mono fun _ _ h => ans_of (fun _ _ g => g.one ex_shf) h
theorem h_far (F : Code) (v : Value) (w : World) (hs : Sl w v p3) : Calls Try.prog 15 #[v, .agg #[.int .i64 500000, .int .i64 0]] w fun e w' => ∃ v, e = .returned (.tuple #[v, .int .i64 3]) ∧ Sl w' v [] ∧ Grew w w' :=
  (F.shf p3 (500000, 0) v w hs (by decide)).mono fun _ _ h => ans_of (fun _ _ g => g.one ex_far) h
theorem h_mir (F : Code) (v : Value) (w : World) (hs : Sl w v p3) : Calls Try.prog 17 #[v] w fun e w' => ∃ v, e = .returned (.tuple #[v, .int .i64 0]) ∧ Sl w' v m3 ∧ Grew w w' :=
  (F.mir p3 v w hs (by decide)).mono fun _ _ h => ans_of (fun _ _ g => g.one ex_mir) h
theorem h_same (p : List Pt) (v v' : Value) (w : World) (h1 : Sl w v p) (h2 : Sl w v' p) (hl : p.length ≤ 9223372036854775807) : Calls Try.prog 14 #[v, v'] w fun e w' => e = .returned (.bool true) ∧ Grew w w' :=
  (same_any p p v v' w h1 h2 hl).mono fun _ _ t => t.to rfl
set_option maxRecDepth 100000 in
set_option maxHeartbeats 1000000 in
theorem head_true (F : Code) (w : World) : Calls Try.prog 10 #[] w fun e w' => e = .returned (.bool true) ∧ Grew w w' := by
  go_enter Try.func10, Try.ntmps10
  have P0 : Hid (Sl (w.alloc (.cells #[.int .i64 0, .int .i64 0, .int .i64 2, .int .i64 0, .int .i64 0, .int .i64 2] 24)) (.slice (some ⟨w.heap.size, 0, none⟩) 3 3) p3) := Lib.hid (Sl.of (row_new p3 _ rfl w 24))
  have R0 : Hid (Sl ((w.alloc (.cells #[.int .i64 0, .int .i64 0, .int .i64 2, .int .i64 0, .int .i64 0, .int .i64 2] 24)).alloc (.cells #[.int .i64 0, .int .i64 0, .int .i64 1, .int .i64 1] 24)) (.slice (some ⟨w.heap.size + 1, 0, none⟩) 2 2) d2) := Lib.hid (by
    have h := Sl.of (c := 2) (row_new d2 _ rfl (w.alloc (.cells #[.int .i64 0, .int .i64 0, .int .i64 2, .int .i64 0, .int .i64 0, .int .i64 2] 24)) 24)
    rw [World.size_alloc] at h
    exact h)
  go_wp2_with fail
  refine (h_sum F _ _ _ (P0.out.grown ((Grew.refl _).alloc _ _)) R0.out).mono ?_
  rintro e w1 ⟨v1, rfl, s1, g1⟩
  have D1 : Grew w w1 := Grew.trans (by (repeat' (first | (with_reducible exact Grew.refl _) | (with_reducible assumption) | (with_reducible refine Grew.alloc ?_ _ _) | (with_reducible refine Grew.drew ?_) | (with_reducible refine Grew.drewN ?_ _) | (with_reducible refine Grew.setCell ?_ ?_ _) | go_size))) g1
  have G1 : Grew w w1 := D1
  have P1 := Lib.hid (P0.out.grown (Grew.trans ((Grew.refl _).alloc _ _) g1))
  clear P0
  clear g1 D1
  have A1 := Lib.hid s1
  clear s1
  go_wp2_with fail
  refine (h_two F _).mono ?_
  rintro e w2 ⟨v2, rfl, s2, g2⟩
  have D2 : Grew w1 w2 := Grew.trans (by (repeat' (first | (with_reducible exact Grew.refl _) | (with_reducible assumption) | (with_reducible refine Grew.alloc ?_ _ _) | (with_reducible refine Grew.drew ?_) | (with_reducible refine Grew.drewN ?_ _) | (with_reducible refine Grew.setCell ?_ ?_ _) | go_size))) g2
  have G2 : Grew w w2 := Grew.trans G1 D2
  have P2 := Lib.hid (P1.out.grown D2)
  have A2 := Lib.hid (A1.out.grown D2)
  clear P1 A1
  clear g2 D2 G1
  have B2 := Lib.hid s2
  clear s2
  go_wp2_with fail
  refine (h_shf F _ _ P2.out).mono ?_
  rintro e w3 ⟨v3, rfl, s3, g3⟩
  have D3 : Grew w2 w3 := Grew.trans (by (repeat' (first | (with_reducible exact Grew.refl _) | (with_reducible assumption) | (with_reducible refine Grew.alloc ?_ _ _) | (with_reducible refine Grew.drew ?_) | (with_reducible refine Grew.drewN ?_ _) | (with_reducible refine Grew.setCell ?_ ?_ _) | go_size))) g3
  have G3 : Grew w w3 := Grew.trans G2 D3
  have P3 := Lib.hid (P2.out.grown D3)
  have A3 := Lib.hid (A2.out.grown D3)
  have B3 := Lib.hid (B2.out.grown D3)
  clear P2 A2 B2
  clear g3 D3 G2
  have C3 := Lib.hid s3
  clear s3
  go_wp2_with fail
  refine (h_mir F _ _ P3.out).mono ?_
  rintro e w4 ⟨v4, rfl, s4, g4⟩
  have D4 : Grew w3 w4 := Grew.trans (by (repeat' (first | (with_reducible exact Grew.refl _) | (with_reducible assumption) | (with_reducible refine Grew.alloc ?_ _ _) | (with_reducible refine Grew.drew ?_) | (with_reducible refine Grew.drewN ?_ _) | (with_reducible refine Grew.setCell ?_ ?_ _) | go_size))) g4
  have G4 : Grew w w4 := Grew.trans G3 D4
  have P4 := Lib.hid (P3.out.grown D4)
  have A4 := Lib.hid (A3.out.grown D4)
  have B4 := Lib.hid (B3.out.grown D4)
  have C4 := Lib.hid (C3.out.grown D4)
  clear P3 A3 B3 C3
  clear g4 D4 G3
  have J4 := Lib.hid s4
  clear s4
  go_wp2_with fail
  refine (h_less F _).mono ?_
  rintro e w5 ⟨v5, rfl, _, g5⟩
  have D5 : Grew w4 w5 := Grew.trans (by (repeat' (first | (with_reducible exact Grew.refl _) | (with_reducible assumption) | (with_reducible refine Grew.alloc ?_ _ _) | (with_reducible refine Grew.drew ?_) | (with_reducible refine Grew.drewN ?_ _) | (with_reducible refine Grew.setCell ?_ ?_ _) | go_size))) g5
  have G5 : Grew w w5 := Grew.trans G4 D5
  have P5 := Lib.hid (P4.out.grown D5)
  have A5 := Lib.hid (A4.out.grown D5)
  have B5 := Lib.hid (B4.out.grown D5)
  have C5 := Lib.hid (C4.out.grown D5)
  have J5 := Lib.hid (J4.out.grown D5)
  clear P4 A4 B4 C4 J4
  clear g5 D5 G4
  go_wp2_with fail
  refine (h_far F _ _ P5.out).mono ?_
  rintro e w6 ⟨v6, rfl, _, g6⟩
  have D6 : Grew w5 w6 := Grew.trans (by (repeat' (first | (with_reducible exact Grew.refl _) | (with_reducible assumption) | (with_reducible refine Grew.alloc ?_ _ _) | (with_reducible refine Grew.drew ?_) | (with_reducible refine Grew.drewN ?_ _) | (with_reducible refine Grew.setCell ?_ ?_ _) | go_size))) g6
  have G6 : Grew w w6 := Grew.trans G5 D6
  have P6 := Lib.hid (P5.out.grown D6)
  have A6 := Lib.hid (A5.out.grown D6)
  have B6 := Lib.hid (B5.out.grown D6)
  have C6 := Lib.hid (C5.out.grown D6)
  have J6 := Lib.hid (J5.out.grown D6)
  clear P5 A5 B5 C5 J5
  clear g6 D6 G5
  go_wp2_with fail
  refine (h_nil F _ _ P6.out).mono ?_
  rintro e w7 ⟨v7, rfl, _, g7⟩
  have D7 : Grew w6 w7 := Grew.trans (by (repeat' (first | (with_reducible exact Grew.refl _) | (with_reducible assumption) | (with_reducible refine Grew.alloc ?_ _ _) | (with_reducible refine Grew.drew ?_) | (with_reducible refine Grew.drewN ?_ _) | (with_reducible refine Grew.setCell ?_ ?_ _) | go_size))) g7
  have G7 : Grew w w7 := Grew.trans G6 D7
  have P7 := Lib.hid (P6.out.grown D7)
  have A7 := Lib.hid (A6.out.grown D7)
  have B7 := Lib.hid (B6.out.grown D7)
  have C7 := Lib.hid (C6.out.grown D7)
  have J7 := Lib.hid (J6.out.grown D7)
  clear P6 A6 B6 C6 J6
  clear g7 D7 G6
  clear P7
  go_wp2_with fail
  refine (h_zero F _).mono ?_
  rintro e w8 ⟨v8, rfl, s8, g8⟩
  have D8 : Grew w7 w8 := Grew.trans (by (repeat' (first | (with_reducible exact Grew.refl _) | (with_reducible assumption) | (with_reducible refine Grew.alloc ?_ _ _) | (with_reducible refine Grew.drew ?_) | (with_reducible refine Grew.drewN ?_ _) | (with_reducible refine Grew.setCell ?_ ?_ _) | go_size))) g8
  have G8 : Grew w w8 := Grew.trans G7 D8
  have A8 := Lib.hid (A7.out.grown D8)
  have B8 := Lib.hid (B7.out.grown D8)
  have C8 := Lib.hid (C7.out.grown D8)
  have J8 := Lib.hid (J7.out.grown D8)
  clear A7 B7 C7 J7
  clear g8 D8 G7
  have E8 := Lib.hid s8
  clear s8
  go_wp2_with fail
  refine (h_same s5 _ _ _ (A8.out.grown ((Grew.refl _).alloc _ _)) (Sl.of (row_new s5 _ rfl _ _)) (by decide)).mono ?_
  rintro e w9 ⟨rfl, g9⟩
  have D9 : Grew w8 w9 := Grew.trans (by (repeat' (first | (with_reducible exact Grew.refl _) | (with_reducible assumption) | (with_reducible refine Grew.alloc ?_ _ _) | (with_reducible refine Grew.drew ?_) | (with_reducible refine Grew.drewN ?_ _) | (with_reducible refine Grew.setCell ?_ ?_ _) | go_size))) g9
  have G9 : Grew w w9 := Grew.trans G8 D9
  have A9 := Lib.hid (A8.out.grown D9)
  have B9 := Lib.hid (B8.out.grown D9)
  have C9 := Lib.hid (C8.out.grown D9)
  have J9 := Lib.hid (J8.out.grown D9)
  have E9 := Lib.hid (E8.out.grown D9)
  clear A8 B8 C8 J8 E8
  clear g9 D9 G8
  clear A9
  go_wp2_with fail
  refine (h_same z1 _ _ _ (E9.out.grown ((Grew.refl _).alloc _ _)) (Sl.of (row_new z1 _ rfl _ _)) (by decide)).mono ?_
  rintro e w10 ⟨rfl, g10⟩
  have D10 : Grew w9 w10 := Grew.trans (by (repeat' (first | (with_reducible exact Grew.refl _) | (with_reducible assumption) | (with_reducible refine Grew.alloc ?_ _ _) | (with_reducible refine Grew.drew ?_) | (with_reducible refine Grew.drewN ?_ _) | (with_reducible refine Grew.setCell ?_ ?_ _) | go_size))) g10
  have G10 : Grew w w10 := Grew.trans G9 D10
  have B10 := Lib.hid (B9.out.grown D10)
  have C10 := Lib.hid (C9.out.grown D10)
  have J10 := Lib.hid (J9.out.grown D10)
  have E10 := Lib.hid (E9.out.grown D10)
  clear B9 C9 J9 E9
  clear g10 D10 G9
  clear E10
  go_wp2_with fail
  refine (h_same o8 _ _ _ (B10.out.grown ((Grew.refl _).alloc _ _)) (Sl.of (row_new o8 _ rfl _ _)) (by decide)).mono ?_
  rintro e w11 ⟨rfl, g11⟩
  have D11 : Grew w10 w11 := Grew.trans (by (repeat' (first | (with_reducible exact Grew.refl _) | (with_reducible assumption) | (with_reducible refine Grew.alloc ?_ _ _) | (with_reducible refine Grew.drew ?_) | (with_reducible refine Grew.drewN ?_ _) | (with_reducible refine Grew.setCell ?_ ?_ _) | go_size))) g11
  have G11 : Grew w w11 := Grew.trans G10 D11
  have B11 := Lib.hid (B10.out.grown D11)
  have C11 := Lib.hid (C10.out.grown D11)
  have J11 := Lib.hid (J10.out.grown D11)
  clear B10 C10 J10
  clear g11 D11 G10
  clear B11
  go_wp2_with fail
  refine (h_same h3 _ _ _ (C11.out.grown ((Grew.refl _).alloc _ _)) (Sl.of (row_new h3 _ rfl _ _)) (by decide)).mono ?_
  rintro e w12 ⟨rfl, g12⟩
  have D12 : Grew w11 w12 := Grew.trans (by (repeat' (first | (with_reducible exact Grew.refl _) | (with_reducible assumption) | (with_reducible refine Grew.alloc ?_ _ _) | (with_reducible refine Grew.drew ?_) | (with_reducible refine Grew.drewN ?_ _) | (with_reducible refine Grew.setCell ?_ ?_ _) | go_size))) g12
  have G12 : Grew w w12 := Grew.trans G11 D12
  have C12 := Lib.hid (C11.out.grown D12)
  have J12 := Lib.hid (J11.out.grown D12)
  clear C11 J11
  clear g12 D12 G11
  clear C12
  go_wp2_with fail
  refine (h_same m3 _ _ _ (J12.out.grown ((Grew.refl _).alloc _ _)) (Sl.of (row_new m3 _ rfl _ _)) (by decide)).mono ?_
  rintro e w13 ⟨rfl, g13⟩
  have D13 : Grew w12 w13 := Grew.trans (by (repeat' (first | (with_reducible exact Grew.refl _) | (with_reducible assumption) | (with_reducible refine Grew.alloc ?_ _ _) | (with_reducible refine Grew.drew ?_) | (with_reducible refine Grew.drewN ?_ _) | (with_reducible refine Grew.setCell ?_ ?_ _) | go_size))) g13
  have G13 : Grew w w13 := Grew.trans G12 D13
  have J13 := Lib.hid (J12.out.grown D13)
  clear J12
  clear g13 D13 G12
  clear J13
  go_wp2_with fail
  go_ret
  exact ⟨rfl, G13⟩
end Mk
end Go.Proofs.Yteglefjnbkocgaa
