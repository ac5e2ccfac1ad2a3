/-
  The reference's Hull and Has.
  The reference's Bounds.
  The reference's Corners, Box, Octagon, Eight; Has of what is no polygon.
-/
import Derived.Test.YteglefjnbkocgaaHullAro
import Derived.Test.YteglefjnbkocgaaHullHead
import Derived.Test.YteglefjnbkocgaaHullCon
import Derived.RegionTactic
import Derived.ChangeAlike
namespace Go.Proofs.Yteglefjnbkocgaa
open Go.RowKit
namespace Hl
end Hl
end Go.Proofs.Yteglefjnbkocgaa
namespace Go.Proofs.Yteglefjnbkocgaa
open Go.RowKit
namespace Hl
def mnI (x y : Int) : Int := if y < x then y else x
def mxI (x y : Int) : Int := if x < y then y else x
def gL (p : List Pt) (u v : Int) (j : Nat) : Int := u * (at' p j).1 + v * (at' p j).2
def bl (g : Nat → Int) : Nat → Int
  | 0 => g 0
  | k + 1 => mnI (bl g k) (g (k + 1))
def bh (g : Nat → Int) : Nat → Int
  | 0 => g 0
  | k + 1 => mxI (bh g k) (g (k + 1))
theorem bl_min (g : Nat → Int) : ∀ k, (∃ j, j ≤ k ∧ g j = bl g k) ∧ ∀ j, j ≤ k → bl g k ≤ g j
  | 0 => ⟨⟨0, Nat.le_refl _, rfl⟩, fun j hj => by
    obtain rfl : j = 0 := by omega
    exact Int.le_refl _⟩
  | k + 1 => by
    obtain ⟨⟨j, hj, e⟩, h⟩ := bl_min g k
    have d : bl g (k + 1) = mnI (bl g k) (g (k + 1)) := rfl
    rw [d]
    unfold mnI
    split
    · refine ⟨⟨k + 1, Nat.le_refl _, rfl⟩, fun i hi => ?_⟩
      by_cases ei : i = k + 1
      · rw [ei]; exact Int.le_refl _
      · have := h i (by omega); omega
    · refine ⟨⟨j, by omega, e⟩, fun i hi => ?_⟩
      by_cases ei : i = k + 1
      · rw [ei]; omega
      · exact h i (by omega)
theorem bh_max (g : Nat → Int) : ∀ k, (∃ j, j ≤ k ∧ g j = bh g k) ∧ ∀ j, j ≤ k → g j ≤ bh g k
  | 0 => ⟨⟨0, Nat.le_refl _, rfl⟩, fun j hj => by
    obtain rfl : j = 0 := by omega
    exact Int.le_refl _⟩
  | k + 1 => by
    obtain ⟨⟨j, hj, e⟩, h⟩ := bh_max g k
    have d : bh g (k + 1) = mxI (bh g k) (g (k + 1)) := rfl
    rw [d]
    unfold mxI
    split
    · refine ⟨⟨k + 1, Nat.le_refl _, rfl⟩, fun i hi => ?_⟩
      by_cases ei : i = k + 1
      · rw [ei]; exact Int.le_refl _
      · have := h i (by omega); omega
    · refine ⟨⟨j, by omega, e⟩, fun i hi => ?_⟩
      by_cases ei : i = k + 1
      · rw [ei]; omega
      · exact h i (by omega)
theorem one_bd {u x : Int} (hu : u = -1 ∨ u = 0 ∨ u = 1) (hx : -500000 ≤ x ∧ x ≤ 500000) : -500000 ≤ u * x ∧ u * x ≤ 500000 := by
  rcases hu with rfl | rfl | rfl <;> omega
def BoundsSays (p : List Pt) (u v : Int) (w : World) (e : Ending) (w' : World) : Prop := ∃ lo hi : Int, IsMin p u v lo ∧ IsMin p (-u) (-v) (-hi) ∧ e = .returned (.tuple #[.int .i64 lo, .int .i64 hi]) ∧ Grew w w'
theorem bounds_min {p : List Pt} {u v : Int} (h : 1 ≤ p.length) : IsMin p u v (bl (gL p u v) (p.length - 1)) ∧ IsMin p (-u) (-v) (-(bh (gL p u v) (p.length - 1))) := by
  obtain ⟨⟨j, hj, e⟩, h1⟩ := bl_min (gL p u v) (p.length - 1)
  obtain ⟨⟨i, hi, e'⟩, h2⟩ := bh_max (gL p u v) (p.length - 1)
  refine ⟨⟨⟨at' p j, at_mem (by omega), e⟩, fun x hx => ?_⟩, ⟨⟨at' p i, at_mem (by omega), ?_⟩, fun x hx => ?_⟩⟩
  · obtain ⟨n, hn, en⟩ := mem_at hx
    rw [← en]; exact h1 n (by omega)
  · rw [← e']; unfold gL; grind
  · obtain ⟨n, hn, en⟩ := mem_at hx
    have := h2 n (by omega)
    rw [← en]
    have e2 : -u * (at' p n).1 + -v * (at' p n).2 = -(gL p u v n) := by unfold gL; grind
    omega
set_option maxRecDepth 100000 in
set_option maxHeartbeats 2000000 in
theorem bounds_any (p : List Pt) (u v : Int) (hu : u = -1 ∨ u = 0 ∨ u = 1) (hv : v = -1 ∨ v = 0 ∨ v = 1) (b o c : Nat) (w : World) (hr : Row w b o p) (hp : Plcs p) (h1 : 1 ≤ p.length) (h2 : p.length ≤ 9223372036854775807) : Calls Try.prog 26 #[.slice (some ⟨b, o, none⟩) p.length c, .int .i64 u, .int .i64 v] w (BoundsSays p u v w) := by
  have HR := Lib.hid hr
  have PL := Lib.hid hp
  have MIN := Lib.hid (bounds_min (u := u) (v := v) h1)
  obtain ⟨s0, s1⟩ := hr.2 0 (by omega)
  rw [Nat.zero_mul, Nat.add_zero] at s0 s1
  have p0 : (0 : Int) < (p.length : Int) := by omega
  have p1 : 0 < p.length := by omega
  have HU := Lib.hid hu
  have HV := Lib.hid hv
  obtain ⟨m0, m1⟩ := one_bd hu (PL.out 0 (by omega)).1
  obtain ⟨m2, m3⟩ := one_bd hv (PL.out 0 (by omega)).2
  have W1 : IntKind.i64.wrap (u * (at' p 0).1) = u * (at' p 0).1 := IntWalk.i64_in _ ⟨by omega, by omega⟩
  have W2 : IntKind.i64.wrap (v * (at' p 0).2) = v * (at' p 0).2 := IntWalk.i64_in _ ⟨by omega, by omega⟩
  have W3 : IntKind.i64.wrap (u * (at' p 0).1 + v * (at' p 0).2) = u * (at' p 0).1 + v * (at' p 0).2 := IntWalk.i64_in _ ⟨by omega, by omega⟩
  have hbd : ∀ k, k < p.length → -1000000 ≤ gL p u v k ∧ gL p u v k ≤ 1000000 := fun k hk => by
    obtain ⟨_, _⟩ := one_bd hu (hp k hk).1
    obtain ⟨_, _⟩ := one_bd hv (hp k hk).2
    unfold gL
    omega
  have BD := Lib.hid hbd
  clear hr hp hu hv m0 m1 m2 m3 hbd
  go_enter Try.func26, Try.ntmps26
  go_wp2_with fail
  go_quiet (fail)
  clear W1 W2 W3
  go_wp2_with fail
  go_loopw [8, 9, 10] (fun lo hi i wr => ∃ k : Nat, k < p.length ∧ lo = .int .i64 (bl (gL p u v) k) ∧ hi = .int .i64 (bh (gL p u v) k) ∧ i = .int .i64 ((k : Int) + 1) ∧ Grew w wr) (fun _ _ i _ => p.length - (intOf i).toNat)
  case atStart => exact ⟨0, p1, rfl, rfl, rfl, by (repeat' (first | (with_reducible exact Grew.refl _) | (with_reducible assumption) | (with_reducible refine Grew.alloc ?_ _ _) | (with_reducible refine Grew.drew ?_) | (with_reducible refine Grew.drewN ?_ _) | (with_reducible refine Grew.setCell ?_ ?_ _) | go_size))⟩
  case round =>
    clear s0 s1
    obtain ⟨k, hk, rfl, rfl, rfl, G⟩ := hrel
    by_cases hlt : k + 1 < p.length
    · have E1 : Hid (bl (gL p u v) (k + 1) = mnI (bl (gL p u v) k) (gL p u v (k + 1))) := Lib.hid rfl
      have E2 : Hid (bh (gL p u v) (k + 1) = mxI (bh (gL p u v) k) (gL p u v (k + 1))) := Lib.hid rfl
      have hu := HU.out
      have hv := HV.out
      obtain ⟨m0, m1⟩ := one_bd hu (PL.out (k + 1) (by omega)).1
      obtain ⟨m2, m3⟩ := one_bd hv (PL.out (k + 1) (by omega)).2
      have W1 : IntKind.i64.wrap (u * (at' p (k + 1)).1) = u * (at' p (k + 1)).1 := IntWalk.i64_in _ ⟨by omega, by omega⟩
      have W2 : IntKind.i64.wrap (v * (at' p (k + 1)).2) = v * (at' p (k + 1)).2 := IntWalk.i64_in _ ⟨by omega, by omega⟩
      have W3 : IntKind.i64.wrap (u * (at' p (k + 1)).1 + v * (at' p (k + 1)).2) = u * (at' p (k + 1)).1 + v * (at' p (k + 1)).2 := IntWalk.i64_in _ ⟨by omega, by omega⟩
      clear hu hv m0 m1 m2 m3
      obtain ⟨s0, s1⟩ := (HR.out.grown G).2 (k + 1) hlt
      have e1 : ((k : Int) + 1).toNat = k + 1 := by omega
      have i1 : (0 : Int) ≤ (k : Int) + 1 := by omega
      have i2 : (k : Int) + 1 < (p.length : Int) := by omega
      obtain ⟨L, hL⟩ : ∃ L, bl (gL p u v) k = L := ⟨_, rfl⟩
      obtain ⟨M, hM⟩ : ∃ M, bh (gL p u v) k = M := ⟨_, rfl⟩
      have eg : gL p u v (k + 1) = u * (at' p (k + 1)).1 + v * (at' p (k + 1)).2 := rfl
      rw [hL, eg] at E1
      rw [hM, eg] at E2
      rw [hL, hM]
      clear hL hM eg
      have c1 : (u * (at' p (k + 1)).1 + v * (at' p (k + 1)).2 < L ∧ Hid (bl (gL p u v) (k + 1) = u * (at' p (k + 1)).1 + v * (at' p (k + 1)).2)) ∨ (L ≤ u * (at' p (k + 1)).1 + v * (at' p (k + 1)).2 ∧ Hid (bl (gL p u v) (k + 1) = L)) := by
        by_cases h : u * (at' p (k + 1)).1 + v * (at' p (k + 1)).2 < L
        · exact Or.inl ⟨h, Lib.hid (by rw [E1.out]; exact if_pos h)⟩
        · exact Or.inr ⟨by omega, Lib.hid (by rw [E1.out]; exact if_neg h)⟩
      have c2 : (M < u * (at' p (k + 1)).1 + v * (at' p (k + 1)).2 ∧ Hid (bh (gL p u v) (k + 1) = u * (at' p (k + 1)).1 + v * (at' p (k + 1)).2)) ∨ (u * (at' p (k + 1)).1 + v * (at' p (k + 1)).2 ≤ M ∧ Hid (bh (gL p u v) (k + 1) = M)) := by
        by_cases h : M < u * (at' p (k + 1)).1 + v * (at' p (k + 1)).2
        · exact Or.inl ⟨h, Lib.hid (by rw [E2.out]; exact if_pos h)⟩
        · exact Or.inr ⟨by omega, Lib.hid (by rw [E2.out]; exact if_neg h)⟩
      clear E1 E2
      rcases c1 with ⟨c1, F1⟩ | ⟨c1, F1⟩ <;> rcases c2 with ⟨c2, F2⟩ | ⟨c2, F2⟩
      all_goals
        go_wp2_with fail
        go_quiet (fail)
        go_wp2_with fail
        go_quiet (fail)
        clear W1 W2 W3 e1
        go_wp2_with fail
        go_roundw
        case rel => exact ⟨k + 1, hlt, by rw [F1.out], by rw [F2.out], by go_num, by (repeat' (first | (with_reducible exact Grew.refl _) | (with_reducible assumption) | (with_reducible refine Grew.alloc ?_ _ _) | (with_reducible refine Grew.drew ?_) | (with_reducible refine Grew.drewN ?_ _) | (with_reducible refine Grew.setCell ?_ ?_ _) | go_size))⟩
        case measure => simp [intOf]; omega
    · have ek : p.length - 1 = k := by omega
      have x1 : (p.length : Int) ≤ (k : Int) + 1 := by omega
      have mi := MIN.out
      rw [ek] at mi
      have MI := Lib.hid mi
      clear mi
      go_wp2_with fail
      go_ret2
      exact ⟨_, _, MI.out.1, MI.out.2, rfl, G⟩
end Hl
end Go.Proofs.Yteglefjnbkocgaa
namespace Go.Proofs.Yteglefjnbkocgaa
open Go.RowKit
namespace Hl
theorem min_bd {p : List Pt} {u v m : Int} (hp : Plcs p) (hu : u = -1 ∨ u = 0 ∨ u = 1) (hv : v = -1 ∨ v = 0 ∨ v = 1) (h : IsMin p u v m) : -1000000 ≤ m ∧ m ≤ 1000000 := by
  obtain ⟨⟨x, hx, e⟩, _⟩ := h
  obtain ⟨i, hi, ei⟩ := mem_at hx
  have := hp i hi
  rw [ei] at this
  obtain ⟨_, _⟩ := one_bd hu this.1
  obtain ⟨_, _⟩ := one_bd hv this.2
  omega
def CornersSays (p : List Pt) (w : World) (e : Ending) (w' : World) : Prop := ∃ lo hi : Pt, IsBox p lo hi ∧ e = .returned (.tuple #[.agg #[.int .i64 lo.1, .int .i64 lo.2], .agg #[.int .i64 hi.1, .int .i64 hi.2]]) ∧ Grew w w'
def OctSays (p : List Pt) (w : World) (e : Ending) (w' : World) : Prop := ∃ q v, IsOct p q ∧ e = .returned v ∧ Sl w' v q ∧ Grew w w'
theorem oct_plcs {p : List Pt} {a b c d s t i j : Int} (hp : Plcs p) (h1 : IsMin p 1 0 a) (h2 : IsMin p (-1) 0 (-b)) (h3 : IsMin p 0 1 c) (h4 : IsMin p 0 (-1) (-d)) (h5 : IsMin p 1 1 s) (h6 : IsMin p (-1) (-1) (-t)) (h7 : IsMin p 1 (-1) i) (h8 : IsMin p (-1) 1 (-j)) : Plcs (octL a b c d s t i j) := by
  obtain ⟨B, _⟩ := bd_of h1 h2 h3 h4 h5 h6 h7 h8
  refine plcs_of (fun x hx => ?_)
  have hk := oct_keeps B x hx
  obtain ⟨y1, g1, e1⟩ := h1.1
  obtain ⟨y2, g2, e2⟩ := h2.1
  obtain ⟨y3, g3, e3⟩ := h3.1
  obtain ⟨y4, g4, e4⟩ := h4.1
  obtain ⟨n1, l1, r1⟩ := mem_at g1
  obtain ⟨n2, l2, r2⟩ := mem_at g2
  obtain ⟨n3, l3, r3⟩ := mem_at g3
  obtain ⟨n4, l4, r4⟩ := mem_at g4
  have p1 := hp n1 l1
  have p2 := hp n2 l2
  have p3 := hp n3 l3
  have p4 := hp n4 l4
  rw [r1] at p1
  rw [r2] at p2
  rw [r3] at p3
  rw [r4] at p4
  unfold Keeps at hk
  unfold Plc at p1 p2 p3 p4 ⊢
  omega
set_option maxRecDepth 100000 in
set_option maxHeartbeats 2000000 in
theorem octagon_any (p : List Pt) (b o c : Nat) (w : World) (hr : Row w b o p) (hp : Plcs p) (h1 : 1 ≤ p.length) (h2 : p.length ≤ 9223372036854775807) : Calls Try.prog 59 #[.slice (some ⟨b, o, none⟩) p.length c] w (OctSays p w) := by
  have HR := Lib.hid hr
  have PL := Lib.hid hp
  have L1 := Lib.hid h1
  have L2 := Lib.hid h2
  clear hr hp h1 h2
  go_enter Try.func59, Try.ntmps59
  go_wp2_with fail
  refine (bounds_any p (1) (0) (by decide) (by decide) b o c _ (HR.out.grown (by (repeat' (first | (with_reducible exact Grew.refl _) | (with_reducible assumption) | (with_reducible refine Grew.alloc ?_ _ _) | (with_reducible refine Grew.drew ?_) | (with_reducible refine Grew.drewN ?_ _) | (with_reducible refine Grew.setCell ?_ ?_ _) | go_size)))) PL.out L1.out L2.out).mono ?_
  rintro e w1 ⟨xa, xb, m1, n1, rfl, g1⟩
  have G1 : Grew w w1 := Grew.trans (by (repeat' (first | (with_reducible exact Grew.refl _) | (with_reducible assumption) | (with_reducible refine Grew.alloc ?_ _ _) | (with_reducible refine Grew.drew ?_) | (with_reducible refine Grew.drewN ?_ _) | (with_reducible refine Grew.setCell ?_ ?_ _) | go_size))) g1
  have M1 := Lib.hid m1
  have N1 := Lib.hid n1
  obtain ⟨xa0, xa1⟩ := min_bd (u := 1) (v := 0) PL.out (by decide) (by decide) m1
  obtain ⟨xb0, xb1⟩ := min_bd (u := -(1)) (v := -(0)) PL.out (by decide) (by decide) n1
  clear m1 n1
  clear g1
  go_wp2_with fail
  refine (bounds_any p (0) (1) (by decide) (by decide) b o c _ (HR.out.grown (by (repeat' (first | (with_reducible exact Grew.refl _) | (with_reducible assumption) | (with_reducible refine Grew.alloc ?_ _ _) | (with_reducible refine Grew.drew ?_) | (with_reducible refine Grew.drewN ?_ _) | (with_reducible refine Grew.setCell ?_ ?_ _) | go_size)))) PL.out L1.out L2.out).mono ?_
  rintro e w2 ⟨xc, xd, m2, n2, rfl, g2⟩
  have G2 : Grew w w2 := Grew.trans (by (repeat' (first | (with_reducible exact Grew.refl _) | (with_reducible assumption) | (with_reducible refine Grew.alloc ?_ _ _) | (with_reducible refine Grew.drew ?_) | (with_reducible refine Grew.drewN ?_ _) | (with_reducible refine Grew.setCell ?_ ?_ _) | go_size))) g2
  have M2 := Lib.hid m2
  have N2 := Lib.hid n2
  obtain ⟨xc0, xc1⟩ := min_bd (u := 0) (v := 1) PL.out (by decide) (by decide) m2
  obtain ⟨xd0, xd1⟩ := min_bd (u := -(0)) (v := -(1)) PL.out (by decide) (by decide) n2
  clear m2 n2
  clear g2
  go_wp2_with fail
  refine (bounds_any p (1) (1) (by decide) (by decide) b o c _ (HR.out.grown (by (repeat' (first | (with_reducible exact Grew.refl _) | (with_reducible assumption) | (with_reducible refine Grew.alloc ?_ _ _) | (with_reducible refine Grew.drew ?_) | (with_reducible refine Grew.drewN ?_ _) | (with_reducible refine Grew.setCell ?_ ?_ _) | go_size)))) PL.out L1.out L2.out).mono ?_
  rintro e w3 ⟨xs, xt, m3, n3, rfl, g3⟩
  have G3 : Grew w w3 := Grew.trans (by (repeat' (first | (with_reducible exact Grew.refl _) | (with_reducible assumption) | (with_reducible refine Grew.alloc ?_ _ _) | (with_reducible refine Grew.drew ?_) | (with_reducible refine Grew.drewN ?_ _) | (with_reducible refine Grew.setCell ?_ ?_ _) | go_size))) g3
  have M3 := Lib.hid m3
  have N3 := Lib.hid n3
  obtain ⟨xs0, xs1⟩ := min_bd (u := 1) (v := 1) PL.out (by decide) (by decide) m3
  obtain ⟨xt0, xt1⟩ := min_bd (u := -(1)) (v := -(1)) PL.out (by decide) (by decide) n3
  clear m3 n3
  clear g3
  go_wp2_with fail
  refine (bounds_any p (1) (-1) (by decide) (by decide) b o c _ (HR.out.grown (by (repeat' (first | (with_reducible exact Grew.refl _) | (with_reducible assumption) | (with_reducible refine Grew.alloc ?_ _ _) | (with_reducible refine Grew.drew ?_) | (with_reducible refine Grew.drewN ?_ _) | (with_reducible refine Grew.setCell ?_ ?_ _) | go_size)))) PL.out L1.out L2.out).mono ?_
  rintro e w4 ⟨xi, xj, m4, n4, rfl, g4⟩
  have G4 : Grew w w4 := Grew.trans (by (repeat' (first | (with_reducible exact Grew.refl _) | (with_reducible assumption) | (with_reducible refine Grew.alloc ?_ _ _) | (with_reducible refine Grew.drew ?_) | (with_reducible refine Grew.drewN ?_ _) | (with_reducible refine Grew.setCell ?_ ?_ _) | go_size))) g4
  have M4 := Lib.hid m4
  have N4 := Lib.hid n4
  obtain ⟨xi0, xi1⟩ := min_bd (u := 1) (v := -1) PL.out (by decide) (by decide) m4
  obtain ⟨xj0, xj1⟩ := min_bd (u := -(1)) (v := -(-1)) PL.out (by decide) (by decide) n4
  clear m4 n4
  clear g4
  have a1 := M1.out
  have a2 : IsMin p (-1) 0 (-xb) := by simpa using N1.out
  have a3 := M2.out
  have a4 : IsMin p 0 (-1) (-xd) := by simpa using N2.out
  have a5 := M3.out
  have a6 := N3.out
  have a7 := M4.out
  have a8 : IsMin p (-1) 1 (-xj) := by simpa using N4.out
  have PO := Lib.hid (oct_plcs PL.out a1 a2 a3 a4 a5 a6 a7 a8)
  have IO : Hid (∀ q, IsHull (octL xa xb xc xd xs xt xi xj) q → IsOct p q) := Lib.hid (fun q hq => ⟨xa, xb, xc, xd, xs, xt, xi, xj, a1, a2, a3, a4, a5, a6, a7, a8, hq⟩)
  clear a1 a2 a3 a4 a5 a6 a7 a8
  go_wp2_with fail
  refine (around_any (octL xa xb xc xd xs xt xi xj) _ _ _ _ (row_new (octL xa xb xc xd xs xt xi xj) _ rfl _ _) (by simp [octL]) (by simp [octL]) PO.out).mono ?_
  rintro e w5 ⟨v, q, hq, rfl, hs, g5⟩
  have G5 : Grew w w5 := Grew.trans (by (repeat' (first | (with_reducible exact Grew.refl _) | (with_reducible assumption) | (with_reducible refine Grew.alloc ?_ _ _) | (with_reducible refine Grew.drew ?_) | (with_reducible refine Grew.drewN ?_ _) | (with_reducible refine Grew.setCell ?_ ?_ _) | go_size))) g5
  have E := Lib.hid hs
  have HQ := Lib.hid (IO.out q hq)
  clear g5 hq hs
  go_wp2_with fail
  go_ret
  exact ⟨q, _, HQ.out, rfl, E.out, G5⟩
end Hl
end Go.Proofs.Yteglefjnbkocgaa
