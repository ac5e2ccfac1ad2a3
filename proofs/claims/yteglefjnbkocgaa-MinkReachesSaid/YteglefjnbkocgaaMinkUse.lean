/-
  What the laws of stage 6 call: usable, Inside, Has, Valid.
-/
import Derived.Test.YteglefjnbkocgaaMinkHead
namespace Go.Proofs.Yteglefjnbkocgaa
open Go.RowKit Hl
namespace Mk
theorem use_yes (p q : List Pt) (v u : Value) (w : World) (hs : Sl w v p) (hu : Sl w u q) (h1 : p.length ≤ 9223372036854775807) (h2 : q.length ≤ 9223372036854775807) (k1 : Vl p) (k2 : Vl q) : Calls Try.prog 21 #[v, u] w fun e w' => e = .returned (.bool true) ∧ Grew w w' := by
  have P := Lib.hid hs
  have Q := Lib.hid hu
  have LP := Lib.hid h1
  have LQ := Lib.hid h2
  have VP := Lib.hid k1
  have VQ := Lib.hid k2
  clear hs hu h1 h2 k1 k2
  have P0 := P
  have Q0 := Q
  go_enter Try.func21, Try.ntmps21
  go_wp2_with fail
  refine ((rvalid_any p v _ P0.out LP.out).mono fun _ _ t => t.to VP.out).mono ?_
  rintro e w1 ⟨rfl, g1⟩
  have D1 : Grew w w1 := Grew.trans (by (repeat' (first | (with_reducible exact Grew.refl _) | (with_reducible assumption) | (with_reducible refine Grew.alloc ?_ _ _) | (with_reducible refine Grew.drew ?_) | (with_reducible refine Grew.drewN ?_ _) | (with_reducible refine Grew.setCell ?_ ?_ _) | go_size))) g1
  have G1 : Grew w w1 := D1
  have P1 := Lib.hid (P0.out.grown D1)
  have Q1 := Lib.hid (Q0.out.grown D1)
  clear P0 Q0
  clear g1 D1
  go_wp2_with fail
  refine ((rvalid_any q u _ Q1.out LQ.out).mono fun _ _ t => t.to VQ.out).mono ?_
  rintro e w2 ⟨rfl, g2⟩
  have D2 : Grew w1 w2 := Grew.trans (by (repeat' (first | (with_reducible exact Grew.refl _) | (with_reducible assumption) | (with_reducible refine Grew.alloc ?_ _ _) | (with_reducible refine Grew.drew ?_) | (with_reducible refine Grew.drewN ?_ _) | (with_reducible refine Grew.setCell ?_ ?_ _) | go_size))) g2
  have G2 : Grew w w2 := Grew.trans G1 D2
  have P2 := Lib.hid (P1.out.grown D2)
  have Q2 := Lib.hid (Q1.out.grown D2)
  clear P1 Q1
  clear g2 D2 G1
  go_wp2_with fail
  go_ret
  exact ⟨rfl, G2⟩
theorem use_no2 (p q : List Pt) (v u : Value) (w : World) (hs : Sl w v p) (hu : Sl w u q) (h1 : p.length ≤ 9223372036854775807) (h2 : q.length ≤ 9223372036854775807) (k1 : Vl p) (k2 : ¬ Vl q) : Calls Try.prog 21 #[v, u] w fun e w' => e = .returned (.bool false) ∧ Grew w w' := by
  have P := Lib.hid hs
  have Q := Lib.hid hu
  have LP := Lib.hid h1
  have LQ := Lib.hid h2
  have VP := Lib.hid k1
  have VQ := Lib.hid k2
  clear hs hu h1 h2 k1 k2
  have P0 := P
  have Q0 := Q
  go_enter Try.func21, Try.ntmps21
  go_wp2_with fail
  refine ((rvalid_any p v _ P0.out LP.out).mono fun _ _ t => t.to VP.out).mono ?_
  rintro e w1 ⟨rfl, g1⟩
  have D1 : Grew w w1 := Grew.trans (by (repeat' (first | (with_reducible exact Grew.refl _) | (with_reducible assumption) | (with_reducible refine Grew.alloc ?_ _ _) | (with_reducible refine Grew.drew ?_) | (with_reducible refine Grew.drewN ?_ _) | (with_reducible refine Grew.setCell ?_ ?_ _) | go_size))) g1
  have G1 : Grew w w1 := D1
  have P1 := Lib.hid (P0.out.grown D1)
  have Q1 := Lib.hid (Q0.out.grown D1)
  clear P0 Q0
  clear g1 D1
  go_wp2_with fail
  refine ((rvalid_any q u _ Q1.out LQ.out).mono fun _ _ t => t.un VQ.out).mono ?_
  rintro e w2 ⟨rfl, g2⟩
  have D2 : Grew w1 w2 := Grew.trans (by (repeat' (first | (with_reducible exact Grew.refl _) | (with_reducible assumption) | (with_reducible refine Grew.alloc ?_ _ _) | (with_reducible refine Grew.drew ?_) | (with_reducible refine Grew.drewN ?_ _) | (with_reducible refine Grew.setCell ?_ ?_ _) | go_size))) g2
  have G2 : Grew w w2 := Grew.trans G1 D2
  have P2 := Lib.hid (P1.out.grown D2)
  have Q2 := Lib.hid (Q1.out.grown D2)
  clear P1 Q1
  clear g2 D2 G1
  go_wp2_with fail
  go_ret
  exact ⟨rfl, G2⟩
theorem use_no1 (p q : List Pt) (v u : Value) (w : World) (hs : Sl w v p) (hu : Sl w u q) (h1 : p.length ≤ 9223372036854775807) (h2 : q.length ≤ 9223372036854775807) (k1 : ¬ Vl p) : Calls Try.prog 21 #[v, u] w fun e w' => e = .returned (.bool false) ∧ Grew w w' := by
  have P := Lib.hid hs
  have Q := Lib.hid hu
  have LP := Lib.hid h1
  have LQ := Lib.hid h2
  have VP := Lib.hid k1
  clear hs hu h1 h2 k1
  have P0 := P
  have Q0 := Q
  go_enter Try.func21, Try.ntmps21
  go_wp2_with fail
  refine ((rvalid_any p v _ P0.out LP.out).mono fun _ _ t => t.un VP.out).mono ?_
  rintro e w1 ⟨rfl, g1⟩
  have D1 : Grew w w1 := Grew.trans (by (repeat' (first | (with_reducible exact Grew.refl _) | (with_reducible assumption) | (with_reducible refine Grew.alloc ?_ _ _) | (with_reducible refine Grew.drew ?_) | (with_reducible refine Grew.drewN ?_ _) | (with_reducible refine Grew.setCell ?_ ?_ _) | go_size))) g1
  have G1 : Grew w w1 := D1
  have P1 := Lib.hid (P0.out.grown D1)
  have Q1 := Lib.hid (Q0.out.grown D1)
  clear P0 Q0
  clear g1 D1
  go_wp2_with fail
  go_ret
  exact ⟨rfl, G1⟩
theorem use_no (p q : List Pt) (v u : Value) (w : World) (hs : Sl w v p) (hu : Sl w u q) (h1 : p.length ≤ 9223372036854775807) (h2 : q.length ≤ 9223372036854775807) (k : ¬ (Vl p ∧ Vl q)) : Calls Try.prog 21 #[v, u] w fun e w' => e = .returned (.bool false) ∧ Grew w w' := by
  by_cases k1 : Vl p
  · exact use_no2 p q v u w hs hu h1 h2 k1 (fun k2 => k ⟨k1, k2⟩)
  · exact use_no1 p q v u w hs hu h1 h2 k1
theorem inside_sl (p : List Pt) (x : Pt) (v : Value) (w : World) (hs : Sl w v p) (hp : Vl p) (hx : Plc x) : Calls Try.prog 23 #[v, .agg #[.int .i64 x.1, .int .i64 x.2]] w (Tells (Hs p x) w) := by
  have n0 : 1 ≤ p.length := hp.1.1
  obtain ⟨b, o, c, rfl, hr⟩ := hs.row (fun e => by rw [e] at n0; cases n0)
  exact inside_any p x b o c w hr hp.2.1 hx n0 (by have := hp.1.2; omega)
theorem has_yes (K : Hl.Code) (p : List Pt) (x : Pt) (v : Value) (w : World) (hs : Sl w v p) (hp : Vl p) (hx : Plc x) (h : Hs p x) : Calls Try.prog 24 #[v, .agg #[.int .i64 x.1, .int .i64 x.2]] w fun e w' => e = .returned (.tuple #[.bool true, .int .i64 0]) ∧ Grew w w' := by
  refine (K.has_ok p x v w hs hp hx).mono ?_
  rintro e w1 ⟨r, rfl, hr, g⟩
  rw [hr.2 h]
  exact ⟨rfl, g⟩
theorem valid_yes (K : Hl.Code) (p : List Pt) (v : Value) (w : World) (hs : Sl w v p) (hp : Vl p) : Calls Try.prog 25 #[v] w fun e w' => e = .returned (.bool true) ∧ Grew w w' :=
  (K.valid p v w hs (by have := hp.1.2; omega)).mono fun _ _ h => h.to hp
end Mk
end Go.Proofs.Yteglefjnbkocgaa
