/-
  The examples of the chapter; the law CutWhole, under what package cut owes; half-planes as arguments.
-/
import Derived.Test.YtmijlfbmmegfbaaGreatCutCa
import Derived.Test.YtmijlfbmmegfbaaGreatHullHead
import Derived.Test.YtmijlfbmmegfbaaGreatHullCl
import Derived.Test.YtmijlfbmmegfbaaGreatHullCm
import Derived.Test.YtmijlfbmmegfbaaGreatHullFrame
import Derived.Test.YtmijlfbmmegfbaaGreatCutCon
namespace Go.Proofs.YtmijlfbmmegfbaaGreat
open Go.RowKit Hl
namespace Ct
def tri : List Pt := [(0, 0), (4, 0), (0, 4)]
def sq1 : List Pt := [(3, 0), (6, 0), (6, 3), (3, 3)]
def sq2 : List Pt := [(3, 2), (6, 2), (6, 5), (3, 5)]
def r1 : List Pt := [(0, 0), (1, 0), (1, 3), (0, 4)]
def r2 : List Pt := [(0, 0), (2, 0), (2, 3), (0, 4)]
def r3 : List Pt := [(3, 0), (4, 0), (3, 1)]
theorem tri_vl : Vl tri := vl_of (pg_of (by decide)) (by decide) (plcs_of (by decide))
theorem sq1_vl : Vl sq1 := vl_of (pg_of (by decide)) (by decide) (plcs_of (by decide))
theorem sq2_vl : Vl sq2 := vl_of (pg_of (by decide)) (by decide) (plcs_of (by decide))
theorem poly_of {S : Pt → Prop} (l q : List Pt) (hm : ∀ y, y ∈ l ↔ S y) (hp : pgB q = true) (h3 : 3 ≤ q.length) (h64 : q.length ≤ 64) (hs : ∀ x, x ∈ q → x ∈ l) (hi : ∀ x, x ∈ l → insB q x = true) : Poly S q :=
  ⟨l, q, hm, ⟨pg_of hp, hs, fun x hx => hs_of h3 (hi x hx)⟩, Or.inl ⟨h64, rfl⟩⟩
theorem cut_one : Poly (LeftS tri (1, 0, 1)) r1 := poly_of (leftL tri (1, 0, 1)) r1 (mem_leftL _ _) (by decide) (by decide) (by decide) (by decide +kernel) (by decide +kernel)
theorem cut_two : Poly (LeftS tri (2, 0, 3)) r2 := poly_of (leftL tri (2, 0, 3)) r2 (mem_leftL _ _) (by decide) (by decide) (by decide) (by decide +kernel) (by decide +kernel)
theorem cut_no : ¬ ∃ y, LeftS tri (1, 0, -1) y := fun ⟨y, hy⟩ => by
  have h := (mem_leftL tri (1, 0, -1) y).2 hy
  rw [show leftL tri (1, 0, -1) = [] by decide +kernel] at h
  cases h
theorem meet_one : Poly (BothS tri sq1) r3 := poly_of (bothL tri sq1) r3 (mem_bothL _ _) (by decide) (by decide) (by decide) (by decide +kernel) (by decide +kernel)
theorem apart_one : ¬ ∃ y, BothS tri sq2 y := fun ⟨y, hy⟩ => by
  have h := (mem_bothL tri sq2 y).2 hy
  rw [show bothL tri sq2 = [] by decide +kernel] at h
  cases h
theorem sel_only {m : Pt} (h : Sel sq1 tri m) : m = (3, 0) := by
  have key : ∀ y, C1 sq1 tri y → y = (3, 0) := fun y hy => by
    have h : y ∈ sq1.filter (hsB tri) := mem_hsB.2 hy
    rw [show sq1.filter (hsB tri) = [(3, 0)] by decide +kernel] at h
    simpa using h
  have ex : ∃ z, C1 sq1 tri z := ⟨(3, 0), mem_hsB.1 (show (3, 0) ∈ sq1.filter (hsB tri) by decide +kernel)⟩
  rcases h with h | ⟨h, _⟩ | ⟨h, _⟩
  · exact key m h
  · exact absurd ex h
  · exact absurd ex h
theorem sel_some : ∃ z, Sel sq1 tri z := ⟨(3, 0), Or.inl (mem_hsB.1 (show (3, 0) ∈ sq1.filter (hsB tri) by decide +kernel))⟩
/-- A polygon in memory. -/
def Got (n : Nat) (p : List Pt) (w : World) (e : Ending) (w' : World) : Prop := ∃ b o c, e = .returned (.tuple #[.slice (some ⟨b, o, none⟩) n c, .bool true, .int .i64 0]) ∧ Row w' b o p ∧ Grew w w'
theorem got_of {S : Pt → Prop} {p : List Pt} (hp : Poly S p) (h0 : p ≠ []) {w : World} {e : Ending} {w' : World} (h : PolySays S w e w') : Got p.length p w e w' := by
  rcases h with ⟨q, v, hq, rfl, hs, g⟩ | ⟨hn, _⟩
  · obtain rfl := poly_one hq hp
    obtain ⟨b, o, c, rfl, hr⟩ := hs.row h0
    exact ⟨b, o, c, rfl, hr, g⟩
  · exact absurd hp.some hn
theorem at4_c (x y : Int) (w : World) : Calls Tryz.prog 19 #[.int .i64 x, .int .i64 y] w fun e w' => e = .returned (.agg #[.int .i64 x, .int .i64 y]) ∧ Grew w w' := by
  go_enter Tryz.func19, Tryz.ntmps19
  go_wp2_with fail
  refine bodyPost_ret (v := .agg #[.int .i64 x, .int .i64 y]) (by simp [results, Tryz.results19, go_sem, *]) rfl ⟨rfl, (by (repeat' (first | (with_reducible exact Grew.refl _) | (with_reducible assumption) | (with_reducible refine Grew.alloc ?_ _ _) | (with_reducible refine Grew.drew ?_) | (with_reducible refine Grew.drewN ?_ _) | (with_reducible refine Grew.setCell ?_ ?_ _) | go_size)))⟩
theorem square_c (x y n : Int) (w : World) (hx : 0 ≤ x ∧ x ≤ 10) (hy : 0 ≤ y ∧ y ≤ 10) (hn : 0 ≤ n ∧ n ≤ 10) : Calls Tryz.prog 20 #[.int .i64 x, .int .i64 y, .int .i64 n] w fun e w' => ∃ b, e = .returned (.slice (some ⟨b, 0, none⟩) 4 4) ∧ Row w' b 0 [(x, y), (x + n, y), (x + n, y + n), (x, y + n)] ∧ Grew w w' := by
  have AT := Lib.hid at4_c
  obtain ⟨x0, x1⟩ := hx
  obtain ⟨y0, y1⟩ := hy
  obtain ⟨n0, n1⟩ := hn
  go_enter Tryz.func20, Tryz.ntmps20
  go_wp2_with fail
  refine (AT.out _ _ _).mono ?_
  rintro e w1 ⟨rfl, g1⟩
  go_wp2_with fail
  refine (AT.out _ _ _).mono ?_
  rintro e w2 ⟨rfl, g2⟩
  have G2 := Grew.trans g1 g2
  clear g1 g2
  go_wp2_with fail
  refine (AT.out _ _ _).mono ?_
  rintro e w3 ⟨rfl, g3⟩
  have G3 := Grew.trans G2 g3
  clear g3 G2
  go_wp2_with fail
  refine (AT.out _ _ _).mono ?_
  rintro e w4 ⟨rfl, g4⟩
  have G4 := Grew.trans G3 g4
  clear g4 G3
  go_wp2_with fail
  go_ret
  exact ⟨_, rfl, row_new [(x, y), (x + n, y), (x + n, y + n), (x, y + n)] _ rfl w4 _, G4.alloc _ _⟩
theorem h_cut1 (C : Code) (b o c : Nat) (w : World) (hr : Row w b o tri) : Calls Tryz.prog 8 #[.slice (some ⟨b, o, none⟩) 3 c, .agg #[.int .i64 1, .int .i64 0, .int .i64 1]] w (Got 4 r1 w) :=
  (C.cut_ok tri (1, 0, 1) _ w (Or.inr ⟨b, o, c, rfl, hr⟩) tri_vl (by decide)).mono fun _ _ h => got_of cut_one (by decide) h
theorem h_cut2 (C : Code) (b o c : Nat) (w : World) (hr : Row w b o tri) : Calls Tryz.prog 8 #[.slice (some ⟨b, o, none⟩) 3 c, .agg #[.int .i64 2, .int .i64 0, .int .i64 3]] w (Got 4 r2 w) :=
  (C.cut_ok tri (2, 0, 3) _ w (Or.inr ⟨b, o, c, rfl, hr⟩) tri_vl (by decide)).mono fun _ _ h => got_of cut_two (by decide) h
theorem h_cut3 (C : Code) (b o c : Nat) (w : World) (hr : Row w b o tri) : Calls Tryz.prog 8 #[.slice (some ⟨b, o, none⟩) 3 c, .agg #[.int .i64 1, .int .i64 0, .int .i64 (-1)]] w fun e w' => ∃ v, e = .returned (.tuple #[v, .bool false, .int .i64 0]) ∧ Grew w w' :=
  (C.cut_ok tri (1, 0, -1) _ w (Or.inr ⟨b, o, c, rfl, hr⟩) tri_vl (by decide)).mono (by
    rintro e w' (⟨q, v, hq, _⟩ | ⟨_, v, rfl, _, g⟩)
    · exact absurd hq.some cut_no
    · exact ⟨v, rfl, g⟩)
theorem h_cut4 (C : Code) (b o c : Nat) (w : World) (hr : Row w b o tri) : Calls Tryz.prog 8 #[.slice (some ⟨b, o, none⟩) 3 c, .agg #[.int .i64 0, .int .i64 0, .int .i64 1]] w fun e w' => ∃ v, e = .returned (.tuple #[v, .bool false, .int .i64 1]) ∧ Grew w w' :=
  (C.cut_bad tri (0, 0, 1) _ w (Or.inr ⟨b, o, c, rfl, hr⟩) (by decide) (fun h => absurd h.2 (by decide))).mono (by
    rintro e w' ⟨v, rfl, _, g⟩
    exact ⟨v, rfl, g⟩)
theorem h_meet (C : Code) (b o c b' : Nat) (w : World) (hr : Row w b o tri) (hr' : Row w b' 0 sq1) : Calls Tryz.prog 11 #[.slice (some ⟨b, o, none⟩) 3 c, .slice (some ⟨b', 0, none⟩) 4 4] w (Got 3 r3 w) :=
  (C.meet_ok tri sq1 _ _ w (Or.inr ⟨b, o, c, rfl, hr⟩) (Or.inr ⟨b', 0, 4, rfl, hr'⟩) tri_vl sq1_vl).mono fun _ _ h => got_of meet_one (by decide) h
theorem h_apart (C : Code) (b o c b' : Nat) (w : World) (hr : Row w b o tri) (hr' : Row w b' 0 sq2) : Calls Tryz.prog 13 #[.slice (some ⟨b, o, none⟩) 3 c, .slice (some ⟨b', 0, none⟩) 4 4] w fun e w' => e = .returned (.tuple #[.bool true, .int .i64 0]) ∧ Grew w w' :=
  (C.apart_ok tri sq2 _ _ w (Or.inr ⟨b, o, c, rfl, hr⟩) (Or.inr ⟨b', 0, 4, rfl, hr'⟩) tri_vl sq2_vl).mono (by
    rintro e w' ⟨r, rfl, h, g⟩
    rw [h.2 apart_one]
    exact ⟨rfl, g⟩)
theorem h_common (C : Code) (b o c b' : Nat) (w : World) (hr : Row w b o tri) (hr' : Row w b' 0 sq1) : Calls Tryz.prog 17 #[.slice (some ⟨b', 0, none⟩) 4 4, .slice (some ⟨b, o, none⟩) 3 c] w fun e w' => e = .returned (.tuple #[.agg #[.int .i64 3, .int .i64 0], .bool true, .int .i64 0]) ∧ Grew w w' :=
  (C.common_ok sq1 tri _ _ w (Or.inr ⟨b', 0, 4, rfl, hr'⟩) (Or.inr ⟨b, o, c, rfl, hr⟩) sq1_vl tri_vl).mono (by
    rintro e w' (⟨m, ⟨hm, _⟩, rfl, g⟩ | ⟨hn, _⟩)
    · obtain rfl := sel_only hm
      exact ⟨rfl, g⟩
    · exact absurd sel_some hn)
set_option maxRecDepth 100000 in
set_option maxHeartbeats 4000000 in
theorem head_true (C : Code) (w : World) : Calls Tryz.prog 4 #[] w fun e w' => e = .returned (.bool true) ∧ Grew w w' := by
  go_enter Tryz.func4, Tryz.ntmps4
  go_wp2_with fail
  refine (at4_c _ _ _).mono ?_
  rintro e w1 ⟨rfl, g1⟩
  have D1 : Grew w w1 := Grew.trans (by (repeat' (first | (with_reducible exact Grew.refl _) | (with_reducible assumption) | (with_reducible refine Grew.alloc ?_ _ _) | (with_reducible refine Grew.drew ?_) | (with_reducible refine Grew.drewN ?_ _) | (with_reducible refine Grew.setCell ?_ ?_ _) | go_size))) g1
  have G1 : Grew w w1 := D1
  clear g1 D1
  go_wp2_with fail
  refine (at4_c _ _ _).mono ?_
  rintro e w2 ⟨rfl, g2⟩
  have D2 : Grew w1 w2 := Grew.trans (by (repeat' (first | (with_reducible exact Grew.refl _) | (with_reducible assumption) | (with_reducible refine Grew.alloc ?_ _ _) | (with_reducible refine Grew.drew ?_) | (with_reducible refine Grew.drewN ?_ _) | (with_reducible refine Grew.setCell ?_ ?_ _) | go_size))) g2
  have G2 : Grew w w2 := Grew.trans G1 D2
  clear g2 D2 G1
  go_wp2_with fail
  refine (at4_c _ _ _).mono ?_
  rintro e w3 ⟨rfl, g3⟩
  have D3 : Grew w2 w3 := Grew.trans (by (repeat' (first | (with_reducible exact Grew.refl _) | (with_reducible assumption) | (with_reducible refine Grew.alloc ?_ _ _) | (with_reducible refine Grew.drew ?_) | (with_reducible refine Grew.drewN ?_ _) | (with_reducible refine Grew.setCell ?_ ?_ _) | go_size))) g3
  have G3 : Grew w w3 := Grew.trans G2 D3
  clear g3 D3 G2
  go_wp2_with fail
  have T3 : Hid (Row (w3.alloc (.cells #[.int .i64 0, .int .i64 0, .int .i64 4, .int .i64 0, .int .i64 0, .int .i64 4] 26)) w3.heap.size 0 tri) := Lib.hid (row_new tri _ rfl _ _)
  refine (h_cut1 C _ _ _ _ T3.out).mono ?_
  rintro e w4 ⟨b1, o1, c1, rfl, ra, g4⟩
  have G4 : Grew w w4 := Grew.trans (G3.alloc _ _) g4
  have T4 := Lib.hid (T3.out.grown g4)
  have A4 := Lib.hid ra
  clear g4 G3 T3 ra
  go_wp2_with fail
  refine (h_cut2 C _ _ _ _ T4.out).mono ?_
  rintro e w5 ⟨b2, o2, c2, rfl, rb, g5⟩
  have D5 : Grew w4 w5 := Grew.trans (by (repeat' (first | (with_reducible exact Grew.refl _) | (with_reducible assumption) | (with_reducible refine Grew.alloc ?_ _ _) | (with_reducible refine Grew.drew ?_) | (with_reducible refine Grew.drewN ?_ _) | (with_reducible refine Grew.setCell ?_ ?_ _) | go_size))) g5
  have G5 : Grew w w5 := Grew.trans G4 D5
  have T5 := Lib.hid (T4.out.grown D5)
  have A5 := Lib.hid (A4.out.grown D5)
  clear T4 A4
  clear g5 D5 G4
  have B5 := Lib.hid rb
  clear rb
  go_wp2_with fail
  refine (h_cut3 C _ _ _ _ T5.out).mono ?_
  rintro e w6 ⟨v3, rfl, g6⟩
  have D6 : Grew w5 w6 := Grew.trans (by (repeat' (first | (with_reducible exact Grew.refl _) | (with_reducible assumption) | (with_reducible refine Grew.alloc ?_ _ _) | (with_reducible refine Grew.drew ?_) | (with_reducible refine Grew.drewN ?_ _) | (with_reducible refine Grew.setCell ?_ ?_ _) | go_size))) g6
  have G6 : Grew w w6 := Grew.trans G5 D6
  have T6 := Lib.hid (T5.out.grown D6)
  have A6 := Lib.hid (A5.out.grown D6)
  have B6 := Lib.hid (B5.out.grown D6)
  clear T5 A5 B5
  clear g6 D6 G5
  go_wp2_with fail
  refine (square_c 3 0 3 _ (by omega) (by omega) (by omega)).mono ?_
  rintro e w7 ⟨b4, rfl, rs, g7⟩
  have D7 : Grew w6 w7 := Grew.trans (by (repeat' (first | (with_reducible exact Grew.refl _) | (with_reducible assumption) | (with_reducible refine Grew.alloc ?_ _ _) | (with_reducible refine Grew.drew ?_) | (with_reducible refine Grew.drewN ?_ _) | (with_reducible refine Grew.setCell ?_ ?_ _) | go_size))) g7
  have G7 : Grew w w7 := Grew.trans G6 D7
  have T7 := Lib.hid (T6.out.grown D7)
  have A7 := Lib.hid (A6.out.grown D7)
  have B7 := Lib.hid (B6.out.grown D7)
  clear T6 A6 B6
  clear g7 D7 G6
  have S7 := Lib.hid rs
  clear rs
  go_wp2_with fail
  refine (h_meet C _ _ _ _ _ T7.out S7.out).mono ?_
  rintro e w8 ⟨b5, o5, c5, rfl, rm, g8⟩
  have D8 : Grew w7 w8 := Grew.trans (by (repeat' (first | (with_reducible exact Grew.refl _) | (with_reducible assumption) | (with_reducible refine Grew.alloc ?_ _ _) | (with_reducible refine Grew.drew ?_) | (with_reducible refine Grew.drewN ?_ _) | (with_reducible refine Grew.setCell ?_ ?_ _) | go_size))) g8
  have G8 : Grew w w8 := Grew.trans G7 D8
  have T8 := Lib.hid (T7.out.grown D8)
  have A8 := Lib.hid (A7.out.grown D8)
  have B8 := Lib.hid (B7.out.grown D8)
  have S8 := Lib.hid (S7.out.grown D8)
  clear T7 A7 B7 S7
  clear g8 D8 G7
  have M8 := Lib.hid rm
  clear rm
  go_wp2_with fail
  refine (square_c 3 2 3 _ (by omega) (by omega) (by omega)).mono ?_
  rintro e w9 ⟨b6, rfl, rs, g9⟩
  have D9 : Grew w8 w9 := Grew.trans (by (repeat' (first | (with_reducible exact Grew.refl _) | (with_reducible assumption) | (with_reducible refine Grew.alloc ?_ _ _) | (with_reducible refine Grew.drew ?_) | (with_reducible refine Grew.drewN ?_ _) | (with_reducible refine Grew.setCell ?_ ?_ _) | go_size))) g9
  have G9 : Grew w w9 := Grew.trans G8 D9
  have T9 := Lib.hid (T8.out.grown D9)
  have A9 := Lib.hid (A8.out.grown D9)
  have B9 := Lib.hid (B8.out.grown D9)
  have M9 := Lib.hid (M8.out.grown D9)
  clear T8 A8 B8 M8
  clear g9 D9 G8
  have S9 := Lib.hid rs
  clear rs
  go_wp2_with fail
  refine (h_apart C _ _ _ _ _ T9.out S9.out).mono ?_
  rintro e w10 ⟨rfl, g10⟩
  have D10 : Grew w9 w10 := Grew.trans (by (repeat' (first | (with_reducible exact Grew.refl _) | (with_reducible assumption) | (with_reducible refine Grew.alloc ?_ _ _) | (with_reducible refine Grew.drew ?_) | (with_reducible refine Grew.drewN ?_ _) | (with_reducible refine Grew.setCell ?_ ?_ _) | go_size))) g10
  have G10 : Grew w w10 := Grew.trans G9 D10
  have T10 := Lib.hid (T9.out.grown D10)
  have A10 := Lib.hid (A9.out.grown D10)
  have B10 := Lib.hid (B9.out.grown D10)
  have M10 := Lib.hid (M9.out.grown D10)
  have S10 := Lib.hid (S9.out.grown D10)
  clear T9 A9 B9 M9 S9
  clear g10 D10 G9
  go_wp2_with fail
  refine (square_c 3 0 3 _ (by omega) (by omega) (by omega)).mono ?_
  rintro e w11 ⟨b7, rfl, rs, g11⟩
  have D11 : Grew w10 w11 := Grew.trans (by (repeat' (first | (with_reducible exact Grew.refl _) | (with_reducible assumption) | (with_reducible refine Grew.alloc ?_ _ _) | (with_reducible refine Grew.drew ?_) | (with_reducible refine Grew.drewN ?_ _) | (with_reducible refine Grew.setCell ?_ ?_ _) | go_size))) g11
  have G11 : Grew w w11 := Grew.trans G10 D11
  have T11 := Lib.hid (T10.out.grown D11)
  have A11 := Lib.hid (A10.out.grown D11)
  have B11 := Lib.hid (B10.out.grown D11)
  have M11 := Lib.hid (M10.out.grown D11)
  clear T10 A10 B10 M10
  clear g11 D11 G10
  have S11 := Lib.hid rs
  clear rs
  go_wp2_with fail
  refine (h_common C _ _ _ _ _ T11.out S11.out).mono ?_
  rintro e w12 ⟨rfl, g12⟩
  have D12 : Grew w11 w12 := Grew.trans (by (repeat' (first | (with_reducible exact Grew.refl _) | (with_reducible assumption) | (with_reducible refine Grew.alloc ?_ _ _) | (with_reducible refine Grew.drew ?_) | (with_reducible refine Grew.drewN ?_ _) | (with_reducible refine Grew.setCell ?_ ?_ _) | go_size))) g12
  have G12 : Grew w w12 := Grew.trans G11 D12
  have T12 := Lib.hid (T11.out.grown D12)
  have A12 := Lib.hid (A11.out.grown D12)
  have B12 := Lib.hid (B11.out.grown D12)
  have M12 := Lib.hid (M11.out.grown D12)
  have S12 := Lib.hid (S11.out.grown D12)
  clear T11 A11 B11 M11 S11
  clear g12 D12 G11
  have X12 := Lib.hid (Two.new w12 3 0 26)
  go_wp2_with fail
  refine (h_cut4 C _ _ _ _ (T12.out.grown ((Grew.refl _).alloc _ _))).mono ?_
  rintro e w13 ⟨v13, rfl, g13⟩
  have D13 : Grew w12 w13 := Grew.trans (by (repeat' (first | (with_reducible exact Grew.refl _) | (with_reducible assumption) | (with_reducible refine Grew.alloc ?_ _ _) | (with_reducible refine Grew.drew ?_) | (with_reducible refine Grew.drewN ?_ _) | (with_reducible refine Grew.setCell ?_ ?_ _) | go_size))) g13
  have G13 : Grew w w13 := Grew.trans G12 D13
  have T13 := Lib.hid (T12.out.grown D13)
  have A13 := Lib.hid (A12.out.grown D13)
  have B13 := Lib.hid (B12.out.grown D13)
  have M13 := Lib.hid (M12.out.grown D13)
  have X13 := Lib.hid (X12.out.grown g13)
  clear T12 A12 B12 M12 X12
  clear g13 D13 G12
  go_wp2_with fail
  refine (at4_c _ _ _).mono ?_
  rintro e w14 ⟨rfl, g14⟩
  have D14 : Grew w13 w14 := Grew.trans (by (repeat' (first | (with_reducible exact Grew.refl _) | (with_reducible assumption) | (with_reducible refine Grew.alloc ?_ _ _) | (with_reducible refine Grew.drew ?_) | (with_reducible refine Grew.drewN ?_ _) | (with_reducible refine Grew.setCell ?_ ?_ _) | go_size))) g14
  have G14 : Grew w w14 := Grew.trans G13 D14
  have T14 := Lib.hid (T13.out.grown D14)
  have A14 := Lib.hid (A13.out.grown D14)
  have B14 := Lib.hid (B13.out.grown D14)
  have M14 := Lib.hid (M13.out.grown D14)
  have X14 := Lib.hid (X13.out.grown D14)
  clear T13 A13 B13 M13 X13
  clear g14 D14 G13
  go_wp2_with fail
  refine (at4_c _ _ _).mono ?_
  rintro e w15 ⟨rfl, g15⟩
  have D15 : Grew w14 w15 := Grew.trans (by (repeat' (first | (with_reducible exact Grew.refl _) | (with_reducible assumption) | (with_reducible refine Grew.alloc ?_ _ _) | (with_reducible refine Grew.drew ?_) | (with_reducible refine Grew.drewN ?_ _) | (with_reducible refine Grew.setCell ?_ ?_ _) | go_size))) g15
  have G15 : Grew w w15 := Grew.trans G14 D15
  have T15 := Lib.hid (T14.out.grown D15)
  have A15 := Lib.hid (A14.out.grown D15)
  have B15 := Lib.hid (B14.out.grown D15)
  have M15 := Lib.hid (M14.out.grown D15)
  have X15 := Lib.hid (X14.out.grown D15)
  clear T14 A14 B14 M14 X14
  clear g15 D15 G14
  go_wp2_with fail
  refine (at4_c _ _ _).mono ?_
  rintro e w16 ⟨rfl, g16⟩
  have D16 : Grew w15 w16 := Grew.trans (by (repeat' (first | (with_reducible exact Grew.refl _) | (with_reducible assumption) | (with_reducible refine Grew.alloc ?_ _ _) | (with_reducible refine Grew.drew ?_) | (with_reducible refine Grew.drewN ?_ _) | (with_reducible refine Grew.setCell ?_ ?_ _) | go_size))) g16
  have G16 : Grew w w16 := Grew.trans G15 D16
  have T16 := Lib.hid (T15.out.grown D16)
  have A16 := Lib.hid (A15.out.grown D16)
  have B16 := Lib.hid (B15.out.grown D16)
  have M16 := Lib.hid (M15.out.grown D16)
  have X16 := Lib.hid (X15.out.grown D16)
  clear T15 A15 B15 M15 X15
  clear g16 D16 G15
  go_wp2_with fail
  refine (at4_c _ _ _).mono ?_
  rintro e w17 ⟨rfl, g17⟩
  have D17 : Grew w16 w17 := Grew.trans (by (repeat' (first | (with_reducible exact Grew.refl _) | (with_reducible assumption) | (with_reducible refine Grew.alloc ?_ _ _) | (with_reducible refine Grew.drew ?_) | (with_reducible refine Grew.drewN ?_ _) | (with_reducible refine Grew.setCell ?_ ?_ _) | go_size))) g17
  have G17 : Grew w w17 := Grew.trans G16 D17
  have T17 := Lib.hid (T16.out.grown D17)
  have A17 := Lib.hid (A16.out.grown D17)
  have B17 := Lib.hid (B16.out.grown D17)
  have M17 := Lib.hid (M16.out.grown D17)
  have X17 := Lib.hid (X16.out.grown D17)
  clear T16 A16 B16 M16 X16
  clear g17 D17 G16
  go_wp2_with fail
  refine ((same_any r1 r1 _ _ _ (Or.inr ⟨_, _, _, rfl, A17.out.grown ((Grew.refl _).alloc _ _)⟩) (Or.inr ⟨_, 0, _, rfl, row_new r1 _ rfl w17 _⟩) (by decide)).mono fun _ _ t => t.to rfl).mono ?_
  rintro e w18 ⟨rfl, g18⟩
  have D18 : Grew w17 w18 := Grew.trans (by (repeat' (first | (with_reducible exact Grew.refl _) | (with_reducible assumption) | (with_reducible refine Grew.alloc ?_ _ _) | (with_reducible refine Grew.drew ?_) | (with_reducible refine Grew.drewN ?_ _) | (with_reducible refine Grew.setCell ?_ ?_ _) | go_size))) g18
  have G18 : Grew w w18 := Grew.trans G17 D18
  have T18 := Lib.hid (T17.out.grown D18)
  have A18 := Lib.hid (A17.out.grown D18)
  have B18 := Lib.hid (B17.out.grown D18)
  have M18 := Lib.hid (M17.out.grown D18)
  have X18 := Lib.hid (X17.out.grown D18)
  clear T17 A17 B17 M17 X17
  clear g18 D18 G17
  go_wp2_with fail
  refine (at4_c _ _ _).mono ?_
  rintro e w19 ⟨rfl, g19⟩
  have D19 : Grew w18 w19 := Grew.trans (by (repeat' (first | (with_reducible exact Grew.refl _) | (with_reducible assumption) | (with_reducible refine Grew.alloc ?_ _ _) | (with_reducible refine Grew.drew ?_) | (with_reducible refine Grew.drewN ?_ _) | (with_reducible refine Grew.setCell ?_ ?_ _) | go_size))) g19
  have G19 : Grew w w19 := Grew.trans G18 D19
  have T19 := Lib.hid (T18.out.grown D19)
  have A19 := Lib.hid (A18.out.grown D19)
  have B19 := Lib.hid (B18.out.grown D19)
  have M19 := Lib.hid (M18.out.grown D19)
  have X19 := Lib.hid (X18.out.grown D19)
  clear T18 A18 B18 M18 X18
  clear g19 D19 G18
  go_wp2_with fail
  refine (at4_c _ _ _).mono ?_
  rintro e w20 ⟨rfl, g20⟩
  have D20 : Grew w19 w20 := Grew.trans (by (repeat' (first | (with_reducible exact Grew.refl _) | (with_reducible assumption) | (with_reducible refine Grew.alloc ?_ _ _) | (with_reducible refine Grew.drew ?_) | (with_reducible refine Grew.drewN ?_ _) | (with_reducible refine Grew.setCell ?_ ?_ _) | go_size))) g20
  have G20 : Grew w w20 := Grew.trans G19 D20
  have T20 := Lib.hid (T19.out.grown D20)
  have A20 := Lib.hid (A19.out.grown D20)
  have B20 := Lib.hid (B19.out.grown D20)
  have M20 := Lib.hid (M19.out.grown D20)
  have X20 := Lib.hid (X19.out.grown D20)
  clear T19 A19 B19 M19 X19
  clear g20 D20 G19
  go_wp2_with fail
  refine (at4_c _ _ _).mono ?_
  rintro e w21 ⟨rfl, g21⟩
  have D21 : Grew w20 w21 := Grew.trans (by (repeat' (first | (with_reducible exact Grew.refl _) | (with_reducible assumption) | (with_reducible refine Grew.alloc ?_ _ _) | (with_reducible refine Grew.drew ?_) | (with_reducible refine Grew.drewN ?_ _) | (with_reducible refine Grew.setCell ?_ ?_ _) | go_size))) g21
  have G21 : Grew w w21 := Grew.trans G20 D21
  have T21 := Lib.hid (T20.out.grown D21)
  have A21 := Lib.hid (A20.out.grown D21)
  have B21 := Lib.hid (B20.out.grown D21)
  have M21 := Lib.hid (M20.out.grown D21)
  have X21 := Lib.hid (X20.out.grown D21)
  clear T20 A20 B20 M20 X20
  clear g21 D21 G20
  go_wp2_with fail
  refine (at4_c _ _ _).mono ?_
  rintro e w22 ⟨rfl, g22⟩
  have D22 : Grew w21 w22 := Grew.trans (by (repeat' (first | (with_reducible exact Grew.refl _) | (with_reducible assumption) | (with_reducible refine Grew.alloc ?_ _ _) | (with_reducible refine Grew.drew ?_) | (with_reducible refine Grew.drewN ?_ _) | (with_reducible refine Grew.setCell ?_ ?_ _) | go_size))) g22
  have G22 : Grew w w22 := Grew.trans G21 D22
  have T22 := Lib.hid (T21.out.grown D22)
  have A22 := Lib.hid (A21.out.grown D22)
  have B22 := Lib.hid (B21.out.grown D22)
  have M22 := Lib.hid (M21.out.grown D22)
  have X22 := Lib.hid (X21.out.grown D22)
  clear T21 A21 B21 M21 X21
  clear g22 D22 G21
  go_wp2_with fail
  refine ((same_any r2 r2 _ _ _ (Or.inr ⟨_, _, _, rfl, B22.out.grown ((Grew.refl _).alloc _ _)⟩) (Or.inr ⟨_, 0, _, rfl, row_new r2 _ rfl w22 _⟩) (by decide)).mono fun _ _ t => t.to rfl).mono ?_
  rintro e w23 ⟨rfl, g23⟩
  have D23 : Grew w22 w23 := Grew.trans (by (repeat' (first | (with_reducible exact Grew.refl _) | (with_reducible assumption) | (with_reducible refine Grew.alloc ?_ _ _) | (with_reducible refine Grew.drew ?_) | (with_reducible refine Grew.drewN ?_ _) | (with_reducible refine Grew.setCell ?_ ?_ _) | go_size))) g23
  have G23 : Grew w w23 := Grew.trans G22 D23
  have T23 := Lib.hid (T22.out.grown D23)
  have A23 := Lib.hid (A22.out.grown D23)
  have B23 := Lib.hid (B22.out.grown D23)
  have M23 := Lib.hid (M22.out.grown D23)
  have X23 := Lib.hid (X22.out.grown D23)
  clear T22 A22 B22 M22 X22
  clear g23 D23 G22
  go_wp2_with fail
  obtain ⟨⟨x0, x1, x2⟩, _, _⟩ := X23.out
  refine Bar.begin_ (S := (fun w' => w'.cell? ⟨w12.heap.size, 0, none⟩ = some (.int .i64 3) ∧ w'.cell? ⟨w12.heap.size, 1, none⟩ = some (.int .i64 0))) 12 (by kernel_rfl) ⟨x1, x2⟩ (fun hHeld => ?_)
  clear x0 x1 x2
  refine Bar.Walk.takeY (i := 0) (oi := ⟨some 139, _, _, _, _, _⟩) (v := ?_) rfl (by kernel_rfl) (by kernel_rfl) (by kernel_rfl) rfl (fun _ _ _ h => h) (Or.inl ⟨by rfl, ?_⟩) (by assumption) ?_
  rotate_left
  · intro w; go_simp; (try with_reducible rfl)
  try simp only [Act.put, List.setIfInBounds_toArray, List.set_cons_zero, List.set_cons_succ]
  refine Bar.Walk.takeY (i := 1) (oi := ⟨some 140, _, _, _, _, _⟩) (v := ?_) rfl (by kernel_rfl) (by kernel_rfl) (by kernel_rfl) rfl (fun _ _ _ h => h) (Or.inl ⟨by rfl, ?_⟩) (by assumption) ?_
  rotate_left
  · intro w; go_simp; (try with_reducible rfl)
  try simp only [Act.put, List.setIfInBounds_toArray, List.set_cons_zero, List.set_cons_succ]
  refine Bar.Walk.takeY (i := 2) (oi := ⟨some 141, _, _, _, _, _⟩) (v := ?_) rfl (by kernel_rfl) (by kernel_rfl) (by kernel_rfl) rfl (fun _ _ _ h => h) (Or.inl ⟨by rfl, ?_⟩) (by assumption) ?_
  rotate_left
  · intro w; go_simp; (try with_reducible rfl)
  try simp only [Act.put, List.setIfInBounds_toArray, List.set_cons_zero, List.set_cons_succ]
  refine Bar.Walk.step (i := 3) (o := ⟨some 142, _, _, _, _, _⟩) (by kernel_rfl) rfl (fun K hK => ?_)
  go_simp
  refine (at4_c _ _ _).mono ?_
  rintro e w24 ⟨rfl, g24⟩
  have D24 : Grew w23 w24 := Grew.trans (by (repeat' (first | (with_reducible exact Grew.refl _) | (with_reducible assumption) | (with_reducible refine Grew.alloc ?_ _ _) | (with_reducible refine Grew.drew ?_) | (with_reducible refine Grew.drewN ?_ _) | (with_reducible refine Grew.setCell ?_ ?_ _) | go_size))) g24
  have G24 : Grew w w24 := Grew.trans G23 D24
  have T24 := Lib.hid (T23.out.grown D24)
  have A24 := Lib.hid (A23.out.grown D24)
  have B24 := Lib.hid (B23.out.grown D24)
  have M24 := Lib.hid (M23.out.grown D24)
  have X24 := Lib.hid (X23.out.grown D24)
  clear T23 A23 B23 M23 X23
  clear g24 D24 G23
  obtain ⟨⟨x0, x1, x2⟩, _, _⟩ := X24.out
  go_wp2_with fail
  refine hK.out _ _ ⟨x1, x2⟩ (fun h1 => ?_)
  clear hK K hHeld
  have hHeld := h1
  clear h1
  try simp only [Act.put, List.setIfInBounds_toArray, List.set_cons_zero, List.set_cons_succ]
  clear x0 x1 x2
  refine Bar.Walk.step (i := 4) (o := ⟨some 143, _, _, _, _, _⟩) (by kernel_rfl) rfl (fun K hK => ?_)
  go_simp
  refine (at4_c _ _ _).mono ?_
  rintro e w25 ⟨rfl, g25⟩
  have D25 : Grew w24 w25 := Grew.trans (by (repeat' (first | (with_reducible exact Grew.refl _) | (with_reducible assumption) | (with_reducible refine Grew.alloc ?_ _ _) | (with_reducible refine Grew.drew ?_) | (with_reducible refine Grew.drewN ?_ _) | (with_reducible refine Grew.setCell ?_ ?_ _) | go_size))) g25
  have G25 : Grew w w25 := Grew.trans G24 D25
  have T25 := Lib.hid (T24.out.grown D25)
  have A25 := Lib.hid (A24.out.grown D25)
  have B25 := Lib.hid (B24.out.grown D25)
  have M25 := Lib.hid (M24.out.grown D25)
  have X25 := Lib.hid (X24.out.grown D25)
  clear T24 A24 B24 M24 X24
  clear g25 D25 G24
  obtain ⟨⟨x0, x1, x2⟩, _, _⟩ := X25.out
  go_wp2_with fail
  refine hK.out _ _ ⟨x1, x2⟩ (fun h1 => ?_)
  clear hK K hHeld
  have hHeld := h1
  clear h1
  try simp only [Act.put, List.setIfInBounds_toArray, List.set_cons_zero, List.set_cons_succ]
  clear x0 x1 x2
  refine Bar.Walk.step (i := 5) (o := ⟨some 144, _, _, _, _, _⟩) (by kernel_rfl) rfl (fun K hK => ?_)
  go_simp
  refine (at4_c _ _ _).mono ?_
  rintro e w26 ⟨rfl, g26⟩
  have D26 : Grew w25 w26 := Grew.trans (by (repeat' (first | (with_reducible exact Grew.refl _) | (with_reducible assumption) | (with_reducible refine Grew.alloc ?_ _ _) | (with_reducible refine Grew.drew ?_) | (with_reducible refine Grew.drewN ?_ _) | (with_reducible refine Grew.setCell ?_ ?_ _) | go_size))) g26
  have G26 : Grew w w26 := Grew.trans G25 D26
  have T26 := Lib.hid (T25.out.grown D26)
  have A26 := Lib.hid (A25.out.grown D26)
  have B26 := Lib.hid (B25.out.grown D26)
  have M26 := Lib.hid (M25.out.grown D26)
  have X26 := Lib.hid (X25.out.grown D26)
  clear T25 A25 B25 M25 X25
  clear g26 D26 G25
  obtain ⟨⟨x0, x1, x2⟩, _, _⟩ := X26.out
  go_wp2_with fail
  refine hK.out _ _ ⟨x1, x2⟩ (fun h1 => ?_)
  clear hK K hHeld
  have hHeld := h1
  clear h1
  try simp only [Act.put, List.setIfInBounds_toArray, List.set_cons_zero, List.set_cons_succ]
  clear x0 x1 x2
  refine Bar.Walk.step (i := 6) (o := ⟨some 145, _, _, _, _, _⟩) (by kernel_rfl) rfl (fun K hK => ?_)
  go_simp
  obtain ⟨⟨x0, x1, x2⟩, _, _⟩ := X26.out
  refine hK.out _ _ (by (try dsimp only); simp [go_sem, *]) (fun h1 => ?_)
  clear hK K hHeld
  have hHeld := h1
  clear h1
  try simp only [Act.put, List.setIfInBounds_toArray, List.set_cons_zero, List.set_cons_succ]
  clear x0 x1 x2
  refine Bar.Walk.step (i := 7) (o := ⟨some 146, _, _, _, _, _⟩) (by kernel_rfl) rfl (fun K hK => ?_)
  go_simp
  refine ((same_any r3 r3 _ _ _ (Or.inr ⟨_, _, _, rfl, M26.out.grown ((Grew.refl _).alloc _ _)⟩) (Or.inr ⟨_, 0, _, rfl, row_new r3 _ rfl w26 _⟩) (by decide)).mono fun _ _ t => t.to rfl).mono ?_
  rintro e w27 ⟨rfl, g27⟩
  have D27 : Grew w26 w27 := Grew.trans (by (repeat' (first | (with_reducible exact Grew.refl _) | (with_reducible assumption) | (with_reducible refine Grew.alloc ?_ _ _) | (with_reducible refine Grew.drew ?_) | (with_reducible refine Grew.drewN ?_ _) | (with_reducible refine Grew.setCell ?_ ?_ _) | go_size))) g27
  have G27 : Grew w w27 := Grew.trans G26 D27
  have T27 := Lib.hid (T26.out.grown D27)
  have A27 := Lib.hid (A26.out.grown D27)
  have B27 := Lib.hid (B26.out.grown D27)
  have M27 := Lib.hid (M26.out.grown D27)
  have X27 := Lib.hid (X26.out.grown D27)
  clear T26 A26 B26 M26 X26
  clear g27 D27 G26
  obtain ⟨⟨x0, x1, x2⟩, _, _⟩ := X27.out
  go_wp2_with fail
  refine hK.out _ _ ⟨x1, x2⟩ (fun h1 => ?_)
  clear hK K hHeld
  have hHeld := h1
  clear h1
  try simp only [Act.put, List.setIfInBounds_toArray, List.set_cons_zero, List.set_cons_succ]
  clear x0 x1 x2
  refine Bar.Walk.takeY (i := 8) (oi := ⟨some 147, _, _, _, _, _⟩) (v := ?_) rfl (by kernel_rfl) (by kernel_rfl) (by kernel_rfl) rfl (fun _ _ _ h => h) (Or.inl ⟨by rfl, ?_⟩) (by assumption) ?_
  rotate_left
  · intro w; go_simp; (try with_reducible rfl)
  try simp only [Act.put, List.setIfInBounds_toArray, List.set_cons_zero, List.set_cons_succ]
  refine Bar.Walk.takeY (i := 9) (oi := ⟨some 148, _, _, _, _, _⟩) (v := ?_) rfl (by kernel_rfl) (by kernel_rfl) (by kernel_rfl) rfl (fun _ _ _ h => h) (Or.inl ⟨by rfl, ?_⟩) (by assumption) ?_
  rotate_left
  · intro w; go_simp; (try with_reducible rfl)
  try simp only [Act.put, List.setIfInBounds_toArray, List.set_cons_zero, List.set_cons_succ]
  refine Bar.Walk.take [12] (i := 10) (oi := ⟨some 149, _, _, _, _, _⟩) (v := ?_) rfl (by kernel_rfl) (by kernel_rfl) (by kernel_rfl) (by kernel_rfl) (fun _ _ _ h => h) (Or.inl ⟨by rfl, ?_⟩) (by assumption) ?_
  rotate_left
  · intro w hSw; (try dsimp only at hSw); go_simp; (try with_reducible rfl)
  try simp only [Act.put, List.setIfInBounds_toArray, List.set_cons_zero, List.set_cons_succ]
  refine Bar.Walk.step (i := 11) (o := ⟨some 150, _, _, _, _, _⟩) (by kernel_rfl) rfl (fun K hK => ?_)
  go_simp
  refine (at4_c _ _ _).mono ?_
  rintro e w28 ⟨rfl, g28⟩
  have D28 : Grew w27 w28 := Grew.trans (by (repeat' (first | (with_reducible exact Grew.refl _) | (with_reducible assumption) | (with_reducible refine Grew.alloc ?_ _ _) | (with_reducible refine Grew.drew ?_) | (with_reducible refine Grew.drewN ?_ _) | (with_reducible refine Grew.setCell ?_ ?_ _) | go_size))) g28
  have G28 : Grew w w28 := Grew.trans G27 D28
  have T28 := Lib.hid (T27.out.grown D28)
  have A28 := Lib.hid (A27.out.grown D28)
  have B28 := Lib.hid (B27.out.grown D28)
  have M28 := Lib.hid (M27.out.grown D28)
  have X28 := Lib.hid (X27.out.grown D28)
  clear T27 A27 B27 M27 X27
  clear g28 D28 G27
  obtain ⟨⟨x0, x1, x2⟩, _, _⟩ := X28.out
  go_wp2_with fail
  refine hK.out _ _ ⟨x1, x2⟩ (fun h1 => ?_)
  clear hK K hHeld
  have hHeld := h1
  clear h1
  try simp only [Act.put, List.setIfInBounds_toArray, List.set_cons_zero, List.set_cons_succ]
  clear x0 x1 x2
  refine Bar.Walk.pass (o := ⟨some 151, _, _, _, _, _⟩) (by kernel_rfl) rfl (by kernel_rfl) (fun K hK => ?_)
  go_simp
  refine hK.out _ _ ?_
  clear hK K hHeld
  try simp only [Act.put, List.setIfInBounds_toArray, List.set_cons_zero, List.set_cons_succ]
  refine wpAny_take (i := 13) (oi := ⟨some 152, _, _, _, _, _⟩) (v := ?_) rfl (by kernel_rfl) (by kernel_rfl) (by kernel_rfl) (fun _ _ _ h => h) (Or.inl ⟨by rfl, ?_⟩) ?_
  rotate_left
  · intro w; go_simp; (try with_reducible rfl)
  try simp only [Act.put, List.setIfInBounds_toArray, List.set_cons_zero, List.set_cons_succ]
  refine wpAny_take (i := 14) (oi := ⟨some 0, _, _, _, _, _⟩) (v := ?_) rfl (by kernel_rfl) (by kernel_rfl) (by kernel_rfl) (fun _ _ _ h => h) (Or.inl ⟨by rfl, ?_⟩) ?_
  rotate_left
  · intro w; go_simp; (try with_reducible rfl)
  try simp only [Act.put, List.setIfInBounds_toArray, List.set_cons_zero]
  refine wpAny_done (by kernel_rfl) ?_ _
  go_wp2_with fail
  go_ret
  exact ⟨rfl, G28⟩
end Ct
end Go.Proofs.YtmijlfbmmegfbaaGreat
namespace Go.Proofs.YtmijlfbmmegfbaaGreat
open Go.RowKit Hl
namespace Ct
theorem blk3 {W : World} {B : Nat} {x y z : Value} {t : TypeId} (h : Blk W B #[x, y, z] t) : W.cell? ⟨B, 0, none⟩ = some x ∧ W.cell? ⟨B, 1, none⟩ = some y ∧ W.cell? ⟨B, 2, none⟩ = some z := by simp [World.cell?, show W.heap[B]? = _ from h]
theorem few_c (p q : List Pt) (v v' : Value) (w : World) (hs : ∃ a c, v = .slice a p.length c) (hs' : ∃ a c, v' = .slice a q.length c) : Calls Tryz.prog 5 #[v, v'] w fun e w' => e = .returned (.bool (decide (p.length ≤ 80 ∧ q.length ≤ 80))) ∧ w = w' := by
  obtain ⟨a, c, rfl⟩ := hs
  obtain ⟨a', c', rfl⟩ := hs'
  generalize p.length = n
  generalize q.length = m
  by_cases h1 : n ≤ 80
  · have i1 : (n : Int) ≤ 80 := by omega
    by_cases h2 : m ≤ 80
    · have i2 : (m : Int) ≤ 80 := by omega
      rw [decide_eq_true (show n ≤ 80 ∧ m ≤ 80 from ⟨h1, h2⟩)]
      clear h1 h2
      go_enter Tryz.func5, Tryz.ntmps5
      go_wp2_with fail
      go_ret
      exact ⟨rfl, rfl⟩
    · have i2 : ¬ (m : Int) ≤ 80 := by omega
      rw [decide_eq_false (show ¬ (n ≤ 80 ∧ m ≤ 80) from fun h => h2 h.2)]
      clear h1 h2
      go_enter Tryz.func5, Tryz.ntmps5
      go_wp2_with fail
      go_ret
      exact ⟨by first | rfl | (simp; omega), rfl⟩
  · have i1 : ¬ (n : Int) ≤ 80 := by omega
    rw [decide_eq_false (show ¬ (n ≤ 80 ∧ m ≤ 80) from fun h => h1 h.1)]
    clear h1
    go_enter Tryz.func5, Tryz.ntmps5
    go_wp2_with fail
    go_ret
    exact ⟨by first | rfl | (simp; omega), rfl⟩
/-- How many of the first k corners a half-plane has. -/
def cnt (p : List Pt) (h : Hf) (k : Nat) : Nat := ((List.range k).filter fun i => decide (ov h (at' p i) ≤ 0)).length
theorem cnt_zero (p : List Pt) (h : Hf) : cnt p h 0 = 0 := rfl
theorem cnt_yes {p : List Pt} {h : Hf} {k : Nat} (hk : ov h (at' p k) ≤ 0) : cnt p h (k + 1) = cnt p h k + 1 := by
  unfold cnt
  rw [List.range_succ, List.filter_append, List.length_append, List.filter_cons_of_pos (by simp [hk])]
  rfl
theorem cnt_no {p : List Pt} {h : Hf} {k : Nat} (hk : ¬ ov h (at' p k) ≤ 0) : cnt p h (k + 1) = cnt p h k := by
  unfold cnt
  rw [List.range_succ, List.filter_append, List.length_append, List.filter_cons_of_neg (by simp [hk])]
  rfl
theorem cnt_le (p : List Pt) (h : Hf) (k : Nat) : cnt p h k ≤ k := by
  unfold cnt
  have := List.length_filter_le (fun i => decide (ov h (at' p i) ≤ 0)) (List.range k)
  rwa [List.length_range] at this
theorem cnt_some {p : List Pt} {h : Hf} : 0 < cnt p h p.length ↔ ∃ y, LeftS p h y := by
  unfold cnt
  rw [List.length_pos_iff_exists_mem]
  constructor
  · rintro ⟨i, hi⟩
    obtain ⟨h1, h2⟩ := List.mem_filter.1 hi
    exact ⟨at' p i, Or.inl ⟨i, List.mem_range.1 h1, rfl, by simpa using h2⟩⟩
  · rintro ⟨y, ⟨i, hi, rfl, hs⟩ | ⟨i, hi, hf⟩⟩
    · exact ⟨i, List.mem_filter.2 ⟨List.mem_range.2 hi, by simpa using hs⟩⟩
    · rcases hf.df with ⟨h1, _⟩ | ⟨_, h1⟩
      · exact ⟨i, List.mem_filter.2 ⟨List.mem_range.2 hi, by simp; omega⟩⟩
      · exact ⟨(i + 1) % p.length, List.mem_filter.2 ⟨List.mem_range.2 (Nat.mod_lt _ (by omega)), by simp; omega⟩⟩
theorem cnt_all {p : List Pt} {h : Hf} (e : cnt p h p.length = p.length) : ∀ i, i < p.length → ov h (at' p i) ≤ 0 := by
  intro i hi
  unfold cnt at e
  have h2 := (List.length_filter_eq_length_iff (p := fun i => decide (ov h (at' p i) ≤ 0)) (l := List.range p.length)).1 (by rw [e, List.length_range])
  simpa using h2 i (List.mem_range.2 hi)
theorem whole_same {p q : List Pt} {h : Hf} (hp : Vl p) (e : cnt p h p.length = p.length) (hq : Poly (LeftS p h) q) : q = p :=
  hq.own hp.pg hp.1.2 (fun y hy => by
    obtain ⟨i, hi, e'⟩ := mem_at hy
    exact Or.inl ⟨i, hi, e', by rw [← e']; exact cnt_all e i hi⟩) (fun y hy => by
    rcases hy with ⟨i, hi, rfl, _⟩ | ⟨i, hi, hf⟩
    · exact hs_corner hp.pg hi
    · have a := cnt_all e i hi
      have b := cnt_all e ((i + 1) % p.length) (Nat.mod_lt _ (by omega))
      rcases hf.df with ⟨h1, h2⟩ | ⟨h1, h2⟩ <;> omega)
end Ct
end Go.Proofs.YtmijlfbmmegfbaaGreat
namespace Go.Proofs.YtmijlfbmmegfbaaGreat
open Go.ChangeShapes Go.WideShapes Go.ChangeAt Go.RowKit Go.Joins Go.Deep Hl
namespace Ct
theorem i64_of_wf {x : Int} (h : (Lit.int .i64 x).wf = true) : -9223372036854775808 ≤ x ∧ x ≤ 9223372036854775807 := by
  simp [Lit.wf, IntKind.min, IntKind.max, IntKind.signed, IntKind.bits] at h
  exact ⟨by omega, by omega⟩
set_option maxRecDepth 100000 in
theorem cellsHalf : Tryz.prog.cellsOf 24 = 3 := by kernel_rfl
set_option maxRecDepth 100000 in
theorem open_half {H : Type} {enc : TypeId × Value → H} {W : World} {base b0 : Nat} {sp : Nat → Bool} {held : Bool} {v : Value} {d : DataW H} {p : List MemPlace} (hval : Value.okWide Tryz.prog W .any b0 24 v) (h : DataW.Trod enc Tryz.prog W base sp held 24 v d p) :
    ∃ x : Hf, v = .agg #[.int .i64 x.1, .int .i64 x.2.1, .int .i64 x.2.2] ∧ (-9223372036854775808 ≤ x.1 ∧ x.1 ≤ 9223372036854775807) ∧ (-9223372036854775808 ≤ x.2.1 ∧ x.2.1 ≤ 9223372036854775807) ∧ -9223372036854775808 ≤ x.2.2 ∧ x.2.2 ≤ 9223372036854775807 := by
  obtain ⟨c0, c1, c2, y0, y1, y2, m, rfl, rfl, rfl, hy0, hy1, hy2⟩ := open_agg3 Tryz.underlying24 (by kernel_rfl) cellsHalf hval h
  obtain ⟨a, e0, rfl, wa⟩ := DataW.trod_int Tryz.underlying3 hy0
  obtain ⟨b, e1, rfl, wb⟩ := DataW.trod_int Tryz.underlying3 hy1
  obtain ⟨c, e2, rfl, wc⟩ := DataW.trod_int Tryz.underlying3 hy2
  simp at e0 e1 e2
  subst e0 e1 e2
  exact ⟨(a, b, c), rfl, i64_of_wf wa, i64_of_wf wb, i64_of_wf wc⟩
end Ct
end Go.Proofs.YtmijlfbmmegfbaaGreat
